/- SpaceScan: its walk. -/
import Derived.Test.YtobddfpdijmgiaaSpBl
namespace Go.Proofs.Ytobddfpdijmgiaa
open Go.RowKit Go.Shelf
set_option linter.unusedVariables false
set_option linter.unusedSimpArgs false
set_option maxRecDepth 100000
attribute [local go_sem] Oper.semAt_some

theorem own_cap14 {w : World} {B t s n c : Nat} {A : Option Addr} {xs : List Value} (h : w.ownsRow B t s (.slice A n c) n xs) : n ≤ c := by
  obtain ⟨hl, ⟨e, h0⟩ | ⟨g, cap, cur, e, hB, hh, h1, h2, h3, h4⟩⟩ := h
  · injection e with _ e2 e3; omega
  · injection e with _ e2 e3; omega
theorem scan_g14 {w : World} {q g : Nat} {vk : Value} {M : List (Itm × Value)} {last mark : Int} (fa fb : ByteArray) (t most : Int) (h : Sp w q vk g M last mark) (hb : Bm 100000 M) (hka : fa.size ≤ 140737488351232) (hkb : fb.size ≤ 140737488351232) (hk : kept14 last mark t = 0) :
    Calls Try.prog 22 #[.pointer (some ⟨q, 0, none⟩), .string fa, .string fb, .int .i64 t, .int .i64 most] w fun e w' => ∃ A c, e = .returned (.tuple #[.slice A (scl M fa fb t most).length c, .int .i64 0]) ∧ Px w' (.slice A (scl M fa fb t most).length c) (scl M fa fb t most) ∧ (scl M fa fb t most).length ≤ c ∧ Turn (fun _ => False) w w' := by
  refine (scan_14 fa fb t most h hb hka hkb hk).mono fun e w' ⟨v, h1, h2, h3⟩ => ?_
  obtain ⟨A, c, e⟩ := own_slice_ h2
  subst e
  exact ⟨A, c, h1, Po.px h2 (by have := scl_len14 h.ord fa fb t most; have := hb.1; omega), own_cap14 h2, h3⟩
theorem px_take {w : World} {A : Option Addr} {n c k : Nat} {L : List Pq2} (h : Px w (.slice A n c) L) (hk : k ≤ n) : Px w (.slice A k c) (L.take k) := by
  obtain ⟨A', c', e, hl, hr⟩ := h
  injection e with e1 e2 e3
  subst e1 e2 e3
  refine ⟨A, c, by rw [List.length_take, Nat.min_eq_left hk], by rw [List.length_take]; omega, fun hp => ?_⟩
  have e : L.flatMap pc2 = (L.take k).flatMap pc2 ++ (L.drop k).flatMap pc2 := by rw [← List.flatMap_append, List.take_append_drop]
  obtain ⟨b, o, rfl, hb, hc⟩ := hr (by rw [e, List.length_append]; omega)
  refine ⟨b, o, rfl, hb, fun j u hj => hc j u ?_⟩
  rw [e, List.getElem?_append_left (List.getElem?_eq_some_iff.1 hj).1]
  exact hj
set_option maxHeartbeats 16000000 in
theorem spaceScan_of (fa fb : ByteArray) (t most : Int) (A1 : Option Addr) (n1 d1 : Nat) (ls : List Ac14) (w : World) (hA : Acts14 w (.slice A1 n1 d1) ls) (hz : ∀ q ∈ ls, q.L.length ≤ 140737488351232) (ha : fa.size ≤ 140737488351232) (hb : fb.size ≤ 140737488351232) :
    Calls Try.prog 6 #[.slice A1 n1 d1, .string fa, .string fb, .int .i64 t, .int .i64 most] w fun r w' => r = .returned (.bool true) ∧ Turn (fun _ => False) w w' := by
  have HF := Lib.hid (few_14 hA hz)
  obtain ⟨hnl, HROW0⟩ := hA.row
  have HROW := Lib.hid HROW0
  have HNL := Lib.hid hnl
  have hn63 : n1 ≤ 9223372036854775807 := by obtain ⟨_, _, e, hl, _⟩ := hA; injection e with _ e2 _; omega
  clear hA hz HROW0 hnl
  go_enter Try.func6, Try.ntmps6
  go_wp2_with (go_at_call 19; refine HF.out.mono ?_; rintro e wb ⟨b, rfl, hfp, rfl⟩; have FP := Lib.hid hfp; clear hfp)
  · go_wp2_with (go_at_call 14; refine (lives_14 _).mono ?_; rintro e w9 ⟨rfl, t9⟩)
    go_ret
    exact ⟨rfl, t9⟩
  obtain rfl : b = true := by cases b <;> simp_all
  have CN1 := Lib.hid (FP.out rfl)
  clear FP HF
  go_wp2_with (go_at_call 20; refine (new_14 _).mono ?_; rintro e w1 ⟨q, vk, g, rfl, hs, hf, ht⟩; have S1 := Lib.hid hs; have F1 := Lib.hid hf; have T1 := Lib.hid ht; clear hs hf ht)
  obtain ⟨mb, hmb⟩ : ∃ mb, w1.heap.size = mb := ⟨_, rfl⟩
  have L0 : Hid (Ls14 wb mb (fun _ => False) 0 Q1 q vk g 0 0 (.slice none 0 0) (w1.alloc (.cells #[.slice none 0 0, .int .i64 0, .int .i64 0] 32))) := Lib.hid (by
    refine ⟨⟨[], [], ⟨S1.out.still ((Turn.refl _ _).alloc _), ix_nil _, rfl, ⟨List.Pairwise.nil, fun x hx => by cases hx⟩, by decide, fun k _ => ⟨fun h => absurd h (by simp), fun p hp => by cases hp⟩, bm_nil _⟩, trivial⟩, Blk.new_ _ _ _ hmb, fun k hk => ⟨F1.out k hk, fun e => ?_, fun h => h⟩, by have := T1.out.size; omega, fun k h => h.elim, T1.out.alloc _⟩
    have := S1.out.below k hk
    omega)
  clear S1 F1
  rw [hmb]
  clear hmb
  go_loopw [11, 13, 14, 15, 16] (fun v11 v13 _ _ _ wr => ∃ (i q : Nat) (vk : Value) (g : Nat) (last mark : Int) (AM : Option Addr) (lM cM : Nat), i ≤ n1 ∧ v11 = .pointer (some ⟨q, 0, none⟩) ∧ v13 = .int .i64 i ∧ Ls14 wb mb (fun _ => False) (cn14 (ls.take i)) Q1 q vk g last mark (.slice AM lM cM) wr) (fun _ v13 _ _ _ _ => n1 - (intOf v13).toNat)
  case atStart => exact ⟨0, q, vk, g, 0, 0, none, 0, 0, Nat.zero_le _, rfl, rfl, L0.out⟩
  case round =>
    clear L0 T1 vk g
    obtain ⟨i, q, vk, g, last, mark, AM, lM, cM, hi, rfl, rfl, hlp⟩ := hrel
    obtain ⟨wx, rfl⟩ : ∃ W, W = wr := ⟨_, rfl⟩
    have LP := Lib.hid hlp
    obtain ⟨_, m0, m1, m2⟩ := ls_cells hlp wx (Turn.refl _ _)
    have hmbs : mb < wx.heap.size := hlp.2.1.lt
    have hsw1 : ∀ k, Sw q vk g k → k < wx.heap.size := by obtain ⟨M, Md, hst, _⟩ := hlp.1; exact hst.sp.below
    have h6 := hlp.2.2.2.2.2
    clear hlp
    by_cases hlt : i < n1
    · have hl1 : (i : Int) < (n1 : Int) := by omega
      have hl0 : (0 : Int) ≤ (i : Int) := by omega
      have hq := wrap_of ((i : Int) + 1) (by omega) (by omega)
      obtain ⟨a, hx⟩ : ∃ x, ls[i]? = some x := ⟨_, List.getElem?_eq_getElem (by rw [HNL.out]; exact hlt)⟩
      have HX := Lib.hid hx
      obtain ⟨b, o, rfl, hcc⟩ := HROW.out i a hx
      obtain ⟨⟨e0, e1, e2⟩, _⟩ := hcc wx h6
      have HCC := Lib.hid hcc
      have HFW := Lib.hid (CN1.out.2 a (List.mem_of_getElem? hx))
      obtain ⟨ak, ta, av, aL⟩ := a
      obtain ⟨ln, hln⟩ : ∃ k, aL.length = k := ⟨_, rfl⟩
      simp only at e0 e1 e2 HCC
      obtain ⟨LA, lc, e9, _⟩ := (HCC.out wx h6).2
      rw [hln] at e9
      subst e9
      have HNX : Hid (cn14 (ls.take (i + 1)) = cn14 (ls.take i) + 1 + ln ∧ cn14 (ls.take (i + 1)) ≤ 200) := Lib.hid ⟨by rw [cn14_next HX.out, ← hln], Nat.le_trans (cn14_le _ _) CN1.out.1⟩
      have HSTEP0 := ls_step ak ta aL LP.out (by have := HNX.out; omega) hln (by have := HNX.out; omega) HFW.out (fun X hX => (HCC.out X hX).2) (fun _ _ _ _ _ _ h => h)
      rw [← HNX.out.1] at HSTEP0
      have HSTEP := Lib.hid HSTEP0
      have HBX : Hid (∀ X, Turn (Sw q vk g) wx X → X.cell? ⟨mb, 0, none⟩ = some (.slice AM lM cM) ∧ X.cell? ⟨mb, 1, none⟩ = some (.int .i64 last) ∧ X.cell? ⟨mb, 2, none⟩ = some (.int .i64 mark) ∧ X.cell? ⟨b, o + i * 3, none⟩ = some (.int .i64 ak) ∧ X.cell? ⟨b, o + i * 3 + 1, none⟩ = some (.int .i64 ta) ∧ X.cell? ⟨b, o + i * 3 + 2, none⟩ = some (.slice LA ln lc)) := Lib.hid (fun X hX => by
        obtain ⟨h1, d0, d1, d2⟩ := ls_cells LP.out X hX
        obtain ⟨⟨d3, d4, d5⟩, _⟩ := HCC.out X h1
        exact ⟨d0, d1, d2, d3, d4, d5⟩)
      clear hx hcc HSTEP0 h6
      go_wp2_with fail
      have T0 : Hid (Turn (Sw q vk g) wx wx.drew) := Lib.hid (Turn.refl _ _).drew
      refine wp_region_noPanic ?_
      refine wp_region_held_drew (S := (fun X => Turn (Sw q vk g) wx X)) (by kernel_rfl) T0.out (fun hHeld => ?_)
      clear hHeld
      refine wpAnyH_take (i := 0) (v := ?_) rfl (by kernel_rfl) (by kernel_rfl) (by kernel_rfl) (fun _ _ _ h => h) (Or.inl ⟨by rfl, ?_⟩) (by assumption) ?_
      rotate_left 1
      · intro w' hSw
        go_simp
        all_goals first | with_reducible rfl | (rw [if_neg (by omega)]; done) | (rw [if_pos (by omega)]; done) | (rw [if_neg (by omega)]; with_reducible rfl) | (rw [if_pos (by omega)]; with_reducible rfl)
      try simp only [List.getElem_toArray, List.getElem_cons_zero, List.getElem_cons_succ, Act.put, List.setIfInBounds_toArray, List.set_cons_zero, List.set_cons_succ]
      refine wpAnyH_take (i := 1) (v := ?_) rfl (by kernel_rfl) (by kernel_rfl) (by kernel_rfl) (fun _ _ _ h => h) (Or.inl ⟨by rfl, ?_⟩) (by assumption) ?_
      rotate_left 1
      · intro w' hSw
        obtain ⟨y0, y1, y2, y3, y4, y5⟩ := HBX.out _ hSw
        go_simp
        all_goals first | with_reducible rfl | (rw [if_neg (by omega)]; done) | (rw [if_pos (by omega)]; done) | (rw [if_neg (by omega)]; with_reducible rfl) | (rw [if_pos (by omega)]; with_reducible rfl)
      try simp only [List.getElem_toArray, List.getElem_cons_zero, List.getElem_cons_succ, Act.put, List.setIfInBounds_toArray, List.set_cons_zero, List.set_cons_succ]
      refine wpAnyH_take (i := 2) (v := ?_) rfl (by kernel_rfl) (by kernel_rfl) (by kernel_rfl) (fun _ _ _ h => h) (Or.inl ⟨by rfl, ?_⟩) (by assumption) ?_
      rotate_left 1
      · intro w' hSw
        go_simp
        all_goals first | with_reducible rfl | (rw [if_neg (by omega)]; done) | (rw [if_pos (by omega)]; done) | (rw [if_neg (by omega)]; with_reducible rfl) | (rw [if_pos (by omega)]; with_reducible rfl)
      try simp only [List.getElem_toArray, List.getElem_cons_zero, List.getElem_cons_succ, Act.put, List.setIfInBounds_toArray, List.set_cons_zero, List.set_cons_succ]
      refine wpAnyH_take (i := 3) (v := ?_) rfl (by kernel_rfl) (by kernel_rfl) (by kernel_rfl) (fun _ _ _ h => h) (Or.inl ⟨by rfl, ?_⟩) (by assumption) ?_
      rotate_left 1
      · intro w' hSw
        go_simp
        all_goals first | with_reducible rfl | (rw [if_neg (by omega)]; done) | (rw [if_pos (by omega)]; done) | (rw [if_neg (by omega)]; with_reducible rfl) | (rw [if_pos (by omega)]; with_reducible rfl)
      try simp only [List.getElem_toArray, List.getElem_cons_zero, List.getElem_cons_succ, Act.put, List.setIfInBounds_toArray, List.set_cons_zero, List.set_cons_succ]
      refine wpAnyH_take (i := 4) (v := ?_) rfl (by kernel_rfl) (by kernel_rfl) (by kernel_rfl) (fun _ _ _ h => h) (Or.inl ⟨by rfl, ?_⟩) (by assumption) ?_
      rotate_left 1
      · intro w' hSw
        go_simp
        all_goals first | with_reducible rfl | (rw [if_neg (by omega)]; done) | (rw [if_pos (by omega)]; done) | (rw [if_neg (by omega)]; with_reducible rfl) | (rw [if_pos (by omega)]; with_reducible rfl)
      try simp only [List.getElem_toArray, List.getElem_cons_zero, List.getElem_cons_succ, Act.put, List.setIfInBounds_toArray, List.set_cons_zero, List.set_cons_succ]
      refine wpAnyH_take (i := 5) (v := ?_) rfl (by kernel_rfl) (by kernel_rfl) (by kernel_rfl) (fun _ _ _ h => h) (Or.inl ⟨by rfl, ?_⟩) (by assumption) ?_
      rotate_left 1
      · intro w' hSw
        obtain ⟨y0, y1, y2, y3, y4, y5⟩ := HBX.out _ hSw
        go_simp
        all_goals first | with_reducible rfl | (rw [if_neg (by omega)]; done) | (rw [if_pos (by omega)]; done) | (rw [if_neg (by omega)]; with_reducible rfl) | (rw [if_pos (by omega)]; with_reducible rfl)
      try simp only [List.getElem_toArray, List.getElem_cons_zero, List.getElem_cons_succ, Act.put, List.setIfInBounds_toArray, List.set_cons_zero, List.set_cons_succ]
      refine wpAnyH_ready (rs := [6, 11]) (by kernel_rfl) (by simp) ?_
      refine AllReadyH.cons rfl (fun K hK => ?_) (AllReadyH.cons rfl (fun K hK => ?_) AllReadyH.nil)
      · refine step_call rfl 21 Try.f21 _ _ rfl Try.func21 (by kernel_rfl) (by kernel_rfl) _ _ (HSTEP.out _ (Turn.refl _ _).drew) (by go_simp) ?_
        rintro v8 w8 ⟨q2, vk2, g2, la2, mk2, A2, n2, c2, rfl, hst8, hsw8, ht8⟩
        have ST8 := Lib.hid hst8
        have T8 : Hid (Turn (Sw q vk g) wx w8) := Lib.hid (((Turn.refl _ _).drew).trans ht8)
        have F8 : Hid (∀ k, Sw q2 vk2 g2 k → Sw q vk g k ∨ wx.heap.size ≤ k) := Lib.hid hsw8
        clear hst8 hsw8 ht8
        refine hK.out _ _ T8.out (fun hHeld => ?_)
        clear hHeld hK K
        try simp only [List.getElem_toArray, List.getElem_cons_zero, List.getElem_cons_succ, Act.put, List.setIfInBounds_toArray, List.set_cons_zero, List.set_cons_succ]
        refine wpAnyH_take (i := 7) (v := ?_) rfl (by kernel_rfl) (by kernel_rfl) (by kernel_rfl) (fun _ _ _ h => h) (Or.inl ⟨by rfl, ?_⟩) (by assumption) ?_
        rotate_left 1
        · intro w' hSw
          go_simp
          all_goals first | with_reducible rfl | (rw [if_neg (by omega)]; done) | (rw [if_pos (by omega)]; done) | (rw [if_neg (by omega)]; with_reducible rfl) | (rw [if_pos (by omega)]; with_reducible rfl)
        try simp only [List.getElem_toArray, List.getElem_cons_zero, List.getElem_cons_succ, Act.put, List.setIfInBounds_toArray, List.set_cons_zero, List.set_cons_succ]
        refine wpAnyH_take (i := 8) (v := ?_) rfl (by kernel_rfl) (by kernel_rfl) (by kernel_rfl) (fun _ _ _ h => h) (Or.inl ⟨by rfl, ?_⟩) (by assumption) ?_
        rotate_left 1
        · intro w' hSw
          go_simp
          all_goals first | with_reducible rfl | (rw [if_neg (by omega)]; done) | (rw [if_pos (by omega)]; done) | (rw [if_neg (by omega)]; with_reducible rfl) | (rw [if_pos (by omega)]; with_reducible rfl)
        try simp only [List.getElem_toArray, List.getElem_cons_zero, List.getElem_cons_succ, Act.put, List.setIfInBounds_toArray, List.set_cons_zero, List.set_cons_succ]
        refine wpAnyH_take (i := 9) (v := ?_) rfl (by kernel_rfl) (by kernel_rfl) (by kernel_rfl) (fun _ _ _ h => h) (Or.inl ⟨by rfl, ?_⟩) (by assumption) ?_
        rotate_left 1
        · intro w' hSw
          go_simp
          all_goals first | with_reducible rfl | (rw [if_neg (by omega)]; done) | (rw [if_pos (by omega)]; done) | (rw [if_neg (by omega)]; with_reducible rfl) | (rw [if_pos (by omega)]; with_reducible rfl)
        try simp only [List.getElem_toArray, List.getElem_cons_zero, List.getElem_cons_succ, Act.put, List.setIfInBounds_toArray, List.set_cons_zero, List.set_cons_succ]
        refine wpAnyH_take (i := 10) (v := ?_) rfl (by kernel_rfl) (by kernel_rfl) (by kernel_rfl) (fun _ _ _ h => h) (Or.inl ⟨by rfl, ?_⟩) (by assumption) ?_
        rotate_left 1
        · intro w' hSw
          go_simp
          all_goals first | with_reducible rfl | (rw [if_neg (by omega)]; done) | (rw [if_pos (by omega)]; done) | (rw [if_neg (by omega)]; with_reducible rfl) | (rw [if_pos (by omega)]; with_reducible rfl)
        try simp only [List.getElem_toArray, List.getElem_cons_zero, List.getElem_cons_succ, Act.put, List.setIfInBounds_toArray, List.set_cons_zero, List.set_cons_succ]
        refine wpAnyH_ready (rs := [11]) (by kernel_rfl) (by simp) ?_
        refine AllReadyH.cons rfl (fun K hK => ?_) AllReadyH.nil
        go_simp
        obtain ⟨bx, hbx⟩ : ∃ bx, w8.heap.size = bx := ⟨_, rfl⟩
        have HBXS : Hid (wx.heap.size ≤ bx) := Lib.hid (by have := T8.out.size; omega)
        have NB : Hid (∀ k, Sw q2 vk2 g2 k → k ≠ bx) := Lib.hid (fun k hk e => by
          obtain ⟨M, Md, hst, _⟩ := ST8.out
          have := hst.sp.below k hk
          omega)
        obtain ⟨W8, hW8⟩ : ∃ W, w8.alloc (.cells #[.slice none 0 0, .int .i64 0, .int .i64 0] 32) = W := ⟨_, rfl⟩
        have BB : Hid (Blk W8 bx 32 [.slice none 0 0, .int .i64 0, .int .i64 0]) := Lib.hid (hW8 ▸ Blk.new_ _ _ _ hbx)
        have T8' : Hid (Turn (Sw q vk g) wx W8) := Lib.hid (hW8 ▸ T8.out.alloc _)
        have ST8' : Hid (∃ M Md, St14 W8 q2 vk2 g2 M la2 mk2 (.slice A2 n2 c2) Md (cn14 (ls.take (i + 1))) ∧ Q1 la2 mk2 (M.map (fun p : Itm × Value => p.1))) := Lib.hid (by
          obtain ⟨M, Md, hst, hqq⟩ := ST8.out
          exact ⟨M, Md, hW8 ▸ hst.still ((Turn.refl _ _).alloc _), hqq⟩)
        clear T8 ST8
        have T8 := T8'
        have ST8 := ST8'
        clear T8' ST8'
        rw [hbx, hW8]
        clear hbx hW8 w8
        obtain ⟨w8, rfl⟩ : ∃ W, W = W8 := ⟨_, rfl⟩
        refine hK.out _ _ T8.out (fun hHeld => ?_)
        clear hHeld hK K
        try simp only [List.getElem_toArray, List.getElem_cons_zero, List.getElem_cons_succ, Act.put, List.setIfInBounds_toArray, List.set_cons_zero, List.set_cons_succ]
        refine wpAnyH_take (i := 12) (v := ?_) rfl (by kernel_rfl) (by kernel_rfl) (by kernel_rfl) (fun _ _ _ h => h) (Or.inl ⟨by rfl, ?_⟩) (by assumption) ?_
        rotate_left 1
        · intro w' hSw
          go_simp
          all_goals first | with_reducible rfl | (rw [if_neg (by omega)]; done) | (rw [if_pos (by omega)]; done) | (rw [if_neg (by omega)]; with_reducible rfl) | (rw [if_pos (by omega)]; with_reducible rfl)
        try simp only [List.getElem_toArray, List.getElem_cons_zero, List.getElem_cons_succ, Act.put, List.setIfInBounds_toArray, List.set_cons_zero, List.set_cons_succ]
        refine wpAnyH_ready (rs := [13]) (by kernel_rfl) (by simp) ?_
        refine AllReadyH.cons rfl (fun K hK => ?_) AllReadyH.nil
        obtain ⟨r0, r1, r2, r3, r4, r5⟩ := cells3 BB.out
        have HF := Lib.hid (box3 BB.out (.slice A2 n2 c2) (.int .i64 la2) (.int .i64 mk2))
        go_simp
        have TS9 := Lib.hid (T8.out.trans_new HF.out.2.1 (fun k hk e => by have := HBXS.out; omega))
        refine hK.out _ _ TS9.out (fun hHeld => ?_)
        clear hHeld hK K
        try simp only [List.getElem_toArray, List.getElem_cons_zero, List.getElem_cons_succ, Act.put, List.setIfInBounds_toArray, List.set_cons_zero, List.set_cons_succ]
        refine wpAnyH_take (i := 14) (v := ?_) rfl (by kernel_rfl) (by kernel_rfl) (by kernel_rfl) (fun _ _ _ h => h) (Or.inl ⟨by rfl, ?_⟩) (by assumption) ?_
        rotate_left 1
        · intro w' hSw
          go_simp
          all_goals first | with_reducible rfl | (rw [if_neg (by omega)]; done) | (rw [if_pos (by omega)]; done) | (rw [if_neg (by omega)]; with_reducible rfl) | (rw [if_pos (by omega)]; with_reducible rfl)
        try simp only [List.getElem_toArray, List.getElem_cons_zero, List.getElem_cons_succ, Act.put, List.setIfInBounds_toArray, List.set_cons_zero, List.set_cons_succ]
        refine wpAnyH_done (by kernel_rfl) ?_ _
        refine NoPanic.normal ?_
        obtain ⟨CZ, TS, k0, k1, k2⟩ := HF.out
        obtain ⟨W9, hW9⟩ : ∃ W, ((w8.setCell ⟨bx, 0, none⟩ (.slice A2 n2 c2)).setCell ⟨bx, 1, none⟩ (.int .i64 la2)).setCell ⟨bx, 2, none⟩ (.int .i64 mk2) = W := ⟨_, rfl⟩
        rw [hW9] at CZ TS k0 k1 k2 ⊢
        have B9 := Lib.hid CZ
        have T9 : Hid (Turn (Sw q vk g) wx W9) := Lib.hid (T8.out.trans_new TS (fun k hk e => by have := HBXS.out; omega))
        have ST9 : Hid (∃ M Md, St14 W9 q2 vk2 g2 M la2 mk2 (.slice A2 n2 c2) Md (cn14 (ls.take (i + 1))) ∧ Q1 la2 mk2 (M.map (fun p : Itm × Value => p.1))) := Lib.hid (by
          obtain ⟨M, Md, hst, hqq⟩ := ST8.out
          exact ⟨M, Md, hst.box BB.out (by simp) NB.out TS, hqq⟩)
        clear CZ TS hW9 HF BB TS9 e0 e1 e2 m0 m1 m2
        go_wp2_with fail
        have BM : Hid (Blk W9 mb 32 [.slice AM lM cM, .int .i64 last, .int .i64 mark]) := Lib.hid (LP.out.2.1.turn T9.out (fun h => (LP.out.2.2.1 _ h).2.1 rfl))
        have HBM : Hid (∀ X, Turn (fun k => k = mb) W9 X → X.cell? ⟨bx, 0, none⟩ = some (.slice A2 n2 c2) ∧ X.cell? ⟨bx, 1, none⟩ = some (.int .i64 la2) ∧ X.cell? ⟨bx, 2, none⟩ = some (.int .i64 mk2)) := Lib.hid (fun X hX => by
          have b := B9.out.turn hX (fun e => by have := HBXS.out; omega)
          exact ⟨b.cell 0, b.cell 1, b.cell 2⟩)
        have HEND := Lib.hid (ls_end LP.out ⟨_, _, _, rfl⟩ T9.out ST9.out F8.out)
        clear HSTEP HBX T8 F8 NB ST8
        have T0 : Hid (Turn (fun k => k = mb) W9 W9.drew) := Lib.hid (Turn.refl _ _).drew
        refine wp_region_noPanic ?_
        refine wp_region_held_drew (S := (fun X => Turn (fun k => k = mb) W9 X)) (by kernel_rfl) T0.out (fun hHeld => ?_)
        clear hHeld
        refine wpAnyH_take (i := 0) (v := ?_) rfl (by kernel_rfl) (by kernel_rfl) (by kernel_rfl) (fun _ _ _ h => h) (Or.inl ⟨by rfl, ?_⟩) (by assumption) ?_
        rotate_left 1
        · intro w' hSw
          go_simp
          all_goals first | with_reducible rfl | (rw [if_neg (by omega)]; done) | (rw [if_pos (by omega)]; done) | (rw [if_neg (by omega)]; with_reducible rfl) | (rw [if_pos (by omega)]; with_reducible rfl)
        try simp only [List.getElem_toArray, List.getElem_cons_zero, List.getElem_cons_succ, Act.put, List.setIfInBounds_toArray, List.set_cons_zero, List.set_cons_succ]
        refine wpAnyH_take (i := 1) (v := ?_) rfl (by kernel_rfl) (by kernel_rfl) (by kernel_rfl) (fun _ _ _ h => h) (Or.inl ⟨by rfl, ?_⟩) (by assumption) ?_
        rotate_left 1
        · intro w' hSw
          obtain ⟨y0, y1, y2⟩ := HBM.out _ hSw
          go_simp
          all_goals first | with_reducible rfl | (rw [if_neg (by omega)]; done) | (rw [if_pos (by omega)]; done) | (rw [if_neg (by omega)]; with_reducible rfl) | (rw [if_pos (by omega)]; with_reducible rfl)
        try simp only [List.getElem_toArray, List.getElem_cons_zero, List.getElem_cons_succ, Act.put, List.setIfInBounds_toArray, List.set_cons_zero, List.set_cons_succ]
        refine wpAnyH_take (i := 2) (v := ?_) rfl (by kernel_rfl) (by kernel_rfl) (by kernel_rfl) (fun _ _ _ h => h) (Or.inl ⟨by rfl, ?_⟩) (by assumption) ?_
        rotate_left 1
        · intro w' hSw
          go_simp
          all_goals first | with_reducible rfl | (rw [if_neg (by omega)]; done) | (rw [if_pos (by omega)]; done) | (rw [if_neg (by omega)]; with_reducible rfl) | (rw [if_pos (by omega)]; with_reducible rfl)
        try simp only [List.getElem_toArray, List.getElem_cons_zero, List.getElem_cons_succ, Act.put, List.setIfInBounds_toArray, List.set_cons_zero, List.set_cons_succ]
        refine wpAnyH_ready (rs := [3]) (by kernel_rfl) (by simp) ?_
        refine AllReadyH.cons rfl (fun K hK => ?_) AllReadyH.nil
        obtain ⟨r0, r1, r2, r3, r4, r5⟩ := cells3 BM.out
        have HG := Lib.hid (box3 BM.out (.slice A2 n2 c2) (.int .i64 la2) (.int .i64 mk2))
        go_simp
        have TG : Hid (Turn (fun k => k = mb) W9 _) := Lib.hid (HG.out.2.1).drew
        refine hK.out _ _ TG.out (fun hHeld => ?_)
        clear hHeld hK K
        try simp only [List.getElem_toArray, List.getElem_cons_zero, List.getElem_cons_succ, Act.put, List.setIfInBounds_toArray, List.set_cons_zero, List.set_cons_succ]
        refine wpAnyH_done (by kernel_rfl) ?_ _
        refine NoPanic.normal ?_
        go_wp2_with fail
        go_roundw
        case rel => exact ⟨i + 1, q2, vk2, g2, la2, mk2, A2, n2, c2, by omega, rfl, by simp [hq], (HEND.out _ TG.out HG.out.1)⟩
        case measure => simp [intOf, hq]; omega
      · go_simp
        have T11F : Hid (Turn (fun _ => False) wx (wx.drew.alloc (.cells #[.slice none 0 0, .int .i64 0, .int .i64 0] 32))) := Lib.hid ((Turn.refl _ _).drew.alloc _)
        have T11 : Hid (Turn (Sw q vk g) wx (wx.drew.alloc (.cells #[.slice none 0 0, .int .i64 0, .int .i64 0] 32))) := Lib.hid (T11F.out.mono (fun k _ h => h.elim))
        refine hK.out _ _ T11.out (fun hHeld => ?_)
        clear hHeld hK K
        try simp only [List.getElem_toArray, List.getElem_cons_zero, List.getElem_cons_succ, Act.put, List.setIfInBounds_toArray, List.set_cons_zero, List.set_cons_succ]
        refine wpAnyH_ready (rs := [6]) (by kernel_rfl) (by simp) ?_
        refine AllReadyH.cons rfl (fun K hK => ?_) AllReadyH.nil
        refine step_call rfl 21 Try.f21 _ _ rfl Try.func21 (by kernel_rfl) (by kernel_rfl) _ _ (HSTEP.out _ T11F.out) (by go_simp) ?_
        rintro v8 w8 ⟨q2, vk2, g2, la2, mk2, A2, n2, c2, rfl, hst8, hsw8, ht8⟩
        have ST8 := Lib.hid hst8
        have T8 : Hid (Turn (Sw q vk g) wx w8) := Lib.hid ((T11F.out.mono (fun k _ h => h.elim)).trans ht8)
        have F8 : Hid (∀ k, Sw q2 vk2 g2 k → Sw q vk g k ∨ wx.heap.size ≤ k) := Lib.hid (fun k hk => (hsw8 k hk).imp id (fun h => Nat.le_trans T11F.out.size h))
        obtain ⟨bx, hbx⟩ : ∃ bx, wx.heap.size = bx := ⟨_, rfl⟩
        have HBXS : Hid (wx.heap.size ≤ bx) := Lib.hid (by omega)
        have BB : Hid (Blk w8 bx 32 [.slice none 0 0, .int .i64 0, .int .i64 0]) := Lib.hid ((Blk.new_ wx.drew 32 [.slice none 0 0, .int .i64 0, .int .i64 0] hbx).turn ht8 (fun h => by have := hsw1 _ h; omega))
        have NB : Hid (∀ k, Sw q2 vk2 g2 k → k ≠ bx) := Lib.hid (fun k hk e => by
          rcases hsw8 k hk with h | h
          · have := hsw1 _ h; omega
          · have h7 : wx.heap.size + 1 ≤ k := Nat.le_trans (Nat.le_of_eq (World.size_alloc wx.drew (.cells #[.slice none 0 0, .int .i64 0, .int .i64 0] 32)).symm) h
            omega)
        rw [hbx]
        clear hst8 hsw8 ht8 hbx
        refine hK.out _ _ T8.out (fun hHeld => ?_)
        clear hHeld hK K
        try simp only [List.getElem_toArray, List.getElem_cons_zero, List.getElem_cons_succ, Act.put, List.setIfInBounds_toArray, List.set_cons_zero, List.set_cons_succ]
        refine wpAnyH_take (i := 7) (v := ?_) rfl (by kernel_rfl) (by kernel_rfl) (by kernel_rfl) (fun _ _ _ h => h) (Or.inl ⟨by rfl, ?_⟩) (by assumption) ?_
        rotate_left 1
        · intro w' hSw
          go_simp
          all_goals first | with_reducible rfl | (rw [if_neg (by omega)]; done) | (rw [if_pos (by omega)]; done) | (rw [if_neg (by omega)]; with_reducible rfl) | (rw [if_pos (by omega)]; with_reducible rfl)
        try simp only [List.getElem_toArray, List.getElem_cons_zero, List.getElem_cons_succ, Act.put, List.setIfInBounds_toArray, List.set_cons_zero, List.set_cons_succ]
        refine wpAnyH_take (i := 8) (v := ?_) rfl (by kernel_rfl) (by kernel_rfl) (by kernel_rfl) (fun _ _ _ h => h) (Or.inl ⟨by rfl, ?_⟩) (by assumption) ?_
        rotate_left 1
        · intro w' hSw
          go_simp
          all_goals first | with_reducible rfl | (rw [if_neg (by omega)]; done) | (rw [if_pos (by omega)]; done) | (rw [if_neg (by omega)]; with_reducible rfl) | (rw [if_pos (by omega)]; with_reducible rfl)
        try simp only [List.getElem_toArray, List.getElem_cons_zero, List.getElem_cons_succ, Act.put, List.setIfInBounds_toArray, List.set_cons_zero, List.set_cons_succ]
        refine wpAnyH_take (i := 9) (v := ?_) rfl (by kernel_rfl) (by kernel_rfl) (by kernel_rfl) (fun _ _ _ h => h) (Or.inl ⟨by rfl, ?_⟩) (by assumption) ?_
        rotate_left 1
        · intro w' hSw
          go_simp
          all_goals first | with_reducible rfl | (rw [if_neg (by omega)]; done) | (rw [if_pos (by omega)]; done) | (rw [if_neg (by omega)]; with_reducible rfl) | (rw [if_pos (by omega)]; with_reducible rfl)
        try simp only [List.getElem_toArray, List.getElem_cons_zero, List.getElem_cons_succ, Act.put, List.setIfInBounds_toArray, List.set_cons_zero, List.set_cons_succ]
        refine wpAnyH_take (i := 10) (v := ?_) rfl (by kernel_rfl) (by kernel_rfl) (by kernel_rfl) (fun _ _ _ h => h) (Or.inl ⟨by rfl, ?_⟩) (by assumption) ?_
        rotate_left 1
        · intro w' hSw
          go_simp
          all_goals first | with_reducible rfl | (rw [if_neg (by omega)]; done) | (rw [if_pos (by omega)]; done) | (rw [if_neg (by omega)]; with_reducible rfl) | (rw [if_pos (by omega)]; with_reducible rfl)
        try simp only [List.getElem_toArray, List.getElem_cons_zero, List.getElem_cons_succ, Act.put, List.setIfInBounds_toArray, List.set_cons_zero, List.set_cons_succ]
        refine wpAnyH_take (i := 12) (v := ?_) rfl (by kernel_rfl) (by kernel_rfl) (by kernel_rfl) (fun _ _ _ h => h) (Or.inl ⟨by rfl, ?_⟩) (by assumption) ?_
        rotate_left 1
        · intro w' hSw
          go_simp
          all_goals first | with_reducible rfl | (rw [if_neg (by omega)]; done) | (rw [if_pos (by omega)]; done) | (rw [if_neg (by omega)]; with_reducible rfl) | (rw [if_pos (by omega)]; with_reducible rfl)
        try simp only [List.getElem_toArray, List.getElem_cons_zero, List.getElem_cons_succ, Act.put, List.setIfInBounds_toArray, List.set_cons_zero, List.set_cons_succ]
        refine wpAnyH_ready (rs := [13]) (by kernel_rfl) (by simp) ?_
        refine AllReadyH.cons rfl (fun K hK => ?_) AllReadyH.nil
        obtain ⟨r0, r1, r2, r3, r4, r5⟩ := cells3 BB.out
        have HF := Lib.hid (box3 BB.out (.slice A2 n2 c2) (.int .i64 la2) (.int .i64 mk2))
        go_simp
        have TS9 := Lib.hid (T8.out.trans_new HF.out.2.1 (fun k hk e => by have := HBXS.out; omega))
        refine hK.out _ _ TS9.out (fun hHeld => ?_)
        clear hHeld hK K
        try simp only [List.getElem_toArray, List.getElem_cons_zero, List.getElem_cons_succ, Act.put, List.setIfInBounds_toArray, List.set_cons_zero, List.set_cons_succ]
        refine wpAnyH_take (i := 14) (v := ?_) rfl (by kernel_rfl) (by kernel_rfl) (by kernel_rfl) (fun _ _ _ h => h) (Or.inl ⟨by rfl, ?_⟩) (by assumption) ?_
        rotate_left 1
        · intro w' hSw
          go_simp
          all_goals first | with_reducible rfl | (rw [if_neg (by omega)]; done) | (rw [if_pos (by omega)]; done) | (rw [if_neg (by omega)]; with_reducible rfl) | (rw [if_pos (by omega)]; with_reducible rfl)
        try simp only [List.getElem_toArray, List.getElem_cons_zero, List.getElem_cons_succ, Act.put, List.setIfInBounds_toArray, List.set_cons_zero, List.set_cons_succ]
        refine wpAnyH_done (by kernel_rfl) ?_ _
        refine NoPanic.normal ?_
        obtain ⟨CZ, TS, k0, k1, k2⟩ := HF.out
        obtain ⟨W9, hW9⟩ : ∃ W, ((w8.setCell ⟨bx, 0, none⟩ (.slice A2 n2 c2)).setCell ⟨bx, 1, none⟩ (.int .i64 la2)).setCell ⟨bx, 2, none⟩ (.int .i64 mk2) = W := ⟨_, rfl⟩
        rw [hW9] at CZ TS k0 k1 k2 ⊢
        have B9 := Lib.hid CZ
        have T9 : Hid (Turn (Sw q vk g) wx W9) := Lib.hid (T8.out.trans_new TS (fun k hk e => by have := HBXS.out; omega))
        have ST9 : Hid (∃ M Md, St14 W9 q2 vk2 g2 M la2 mk2 (.slice A2 n2 c2) Md (cn14 (ls.take (i + 1))) ∧ Q1 la2 mk2 (M.map (fun p : Itm × Value => p.1))) := Lib.hid (by
          obtain ⟨M, Md, hst, hqq⟩ := ST8.out
          exact ⟨M, Md, hst.box BB.out (by simp) NB.out TS, hqq⟩)
        clear CZ TS hW9 HF BB TS9 e0 e1 e2 m0 m1 m2
        go_wp2_with fail
        have BM : Hid (Blk W9 mb 32 [.slice AM lM cM, .int .i64 last, .int .i64 mark]) := Lib.hid (LP.out.2.1.turn T9.out (fun h => (LP.out.2.2.1 _ h).2.1 rfl))
        have HBM : Hid (∀ X, Turn (fun k => k = mb) W9 X → X.cell? ⟨bx, 0, none⟩ = some (.slice A2 n2 c2) ∧ X.cell? ⟨bx, 1, none⟩ = some (.int .i64 la2) ∧ X.cell? ⟨bx, 2, none⟩ = some (.int .i64 mk2)) := Lib.hid (fun X hX => by
          have b := B9.out.turn hX (fun e => by have := HBXS.out; omega)
          exact ⟨b.cell 0, b.cell 1, b.cell 2⟩)
        have HEND := Lib.hid (ls_end LP.out ⟨_, _, _, rfl⟩ T9.out ST9.out F8.out)
        clear HSTEP HBX T8 F8 NB ST8
        have T0 : Hid (Turn (fun k => k = mb) W9 W9.drew) := Lib.hid (Turn.refl _ _).drew
        refine wp_region_noPanic ?_
        refine wp_region_held_drew (S := (fun X => Turn (fun k => k = mb) W9 X)) (by kernel_rfl) T0.out (fun hHeld => ?_)
        clear hHeld
        refine wpAnyH_take (i := 0) (v := ?_) rfl (by kernel_rfl) (by kernel_rfl) (by kernel_rfl) (fun _ _ _ h => h) (Or.inl ⟨by rfl, ?_⟩) (by assumption) ?_
        rotate_left 1
        · intro w' hSw
          go_simp
          all_goals first | with_reducible rfl | (rw [if_neg (by omega)]; done) | (rw [if_pos (by omega)]; done) | (rw [if_neg (by omega)]; with_reducible rfl) | (rw [if_pos (by omega)]; with_reducible rfl)
        try simp only [List.getElem_toArray, List.getElem_cons_zero, List.getElem_cons_succ, Act.put, List.setIfInBounds_toArray, List.set_cons_zero, List.set_cons_succ]
        refine wpAnyH_take (i := 1) (v := ?_) rfl (by kernel_rfl) (by kernel_rfl) (by kernel_rfl) (fun _ _ _ h => h) (Or.inl ⟨by rfl, ?_⟩) (by assumption) ?_
        rotate_left 1
        · intro w' hSw
          obtain ⟨y0, y1, y2⟩ := HBM.out _ hSw
          go_simp
          all_goals first | with_reducible rfl | (rw [if_neg (by omega)]; done) | (rw [if_pos (by omega)]; done) | (rw [if_neg (by omega)]; with_reducible rfl) | (rw [if_pos (by omega)]; with_reducible rfl)
        try simp only [List.getElem_toArray, List.getElem_cons_zero, List.getElem_cons_succ, Act.put, List.setIfInBounds_toArray, List.set_cons_zero, List.set_cons_succ]
        refine wpAnyH_take (i := 2) (v := ?_) rfl (by kernel_rfl) (by kernel_rfl) (by kernel_rfl) (fun _ _ _ h => h) (Or.inl ⟨by rfl, ?_⟩) (by assumption) ?_
        rotate_left 1
        · intro w' hSw
          go_simp
          all_goals first | with_reducible rfl | (rw [if_neg (by omega)]; done) | (rw [if_pos (by omega)]; done) | (rw [if_neg (by omega)]; with_reducible rfl) | (rw [if_pos (by omega)]; with_reducible rfl)
        try simp only [List.getElem_toArray, List.getElem_cons_zero, List.getElem_cons_succ, Act.put, List.setIfInBounds_toArray, List.set_cons_zero, List.set_cons_succ]
        refine wpAnyH_ready (rs := [3]) (by kernel_rfl) (by simp) ?_
        refine AllReadyH.cons rfl (fun K hK => ?_) AllReadyH.nil
        obtain ⟨r0, r1, r2, r3, r4, r5⟩ := cells3 BM.out
        have HG := Lib.hid (box3 BM.out (.slice A2 n2 c2) (.int .i64 la2) (.int .i64 mk2))
        go_simp
        have TG : Hid (Turn (fun k => k = mb) W9 _) := Lib.hid (HG.out.2.1).drew
        refine hK.out _ _ TG.out (fun hHeld => ?_)
        clear hHeld hK K
        try simp only [List.getElem_toArray, List.getElem_cons_zero, List.getElem_cons_succ, Act.put, List.setIfInBounds_toArray, List.set_cons_zero, List.set_cons_succ]
        refine wpAnyH_done (by kernel_rfl) ?_ _
        refine NoPanic.normal ?_
        go_wp2_with fail
        go_roundw
        case rel => exact ⟨i + 1, q2, vk2, g2, la2, mk2, A2, n2, c2, by omega, rfl, by simp [hq], (HEND.out _ TG.out HG.out.1)⟩
        case measure => simp [intOf, hq]; omega
    · obtain rfl : i = n1 := by omega
      obtain ⟨M, Md, hst, _⟩ := LP.out.1
      have BM := hst.bm.le (K := 100000) (by have := cn14_le ls i; have := CN1.out.1; omega)
      by_cases hk0 : kept14 last mark t = 0
      · have HS1 := Lib.hid (scan_g14 fa fb t (-1) hst.sp BM ha hb hk0)
        have HS2 := Lib.hid (fun X (hX : Turn (fun _ => False) wx X) => scan_g14 fa fb t most (hst.sp.still hX) BM ha hb hk0)
        obtain ⟨I, hI⟩ : ∃ x, M.map (fun p : Itm × Value => p.1) = x := ⟨_, rfl⟩
        obtain ⟨PL, hPL⟩ : ∃ x, scl M fa fb t (-1) = x := ⟨_, rfl⟩
        obtain ⟨PM, hPM⟩ : ∃ x, scl M fa fb t most = x := ⟨_, rfl⟩
        have HPI : Hid (PL = (row14 I t).filter (fun p => win p.k fa fb)) := Lib.hid (by rw [← hPL, ← hI]; exact scl_row fa fb t)
        have hpl : PL.length ≤ 100000 := by have := scl_len14 hst.sp.ord fa fb t (-1); rw [hPL] at this; have := BM.1; omega
        have HPM0 : Hid (0 ≤ most → PM = PL.take most.toNat) := Lib.hid (fun h => by rw [← hPM, ← hPL]; exact scl_most M fa fb t h)
        have HPM1 : Hid (most < 0 → PM = PL) := Lib.hid (fun h => by rw [← hPM, ← hPL]; exact scl_neg M fa fb t h)
        rw [hPL] at HS1
        rw [hPM] at HS2
        obtain ⟨pl, hpl2⟩ : ∃ n, PL.length = n := ⟨_, rfl⟩
        obtain ⟨pm, hpm2⟩ : ∃ n, PM.length = n := ⟨_, rfl⟩
        have HPLL := Lib.hid hpl2
        have HPML := Lib.hid hpm2
        rw [hpl2] at HS1 hpl
        rw [hpm2] at HS2
        have HITM := Lib.hid (fun X (hX : Turn (fun _ => False) wx X) => items_14 (hst.sp.still hX) BM)
        have HGT := Lib.hid (fun (k : ByteArray) (hk : k.size ≤ maxLen) X (hX : Turn (fun _ => False) wx X) => get_14 k t (hst.sp.still hX) (fun p hp => (BM.2 p hp).1) hk)
        have HGV : Hid (∀ (j : Nat) (x : Itm), I[j]? = some x → x.k.size ≤ maxLen ∧ (get14 M last mark x.k t).1 = (if (at13 x.vs t).2 then (at13 x.vs t).1 else ByteArray.empty) ∧ (get14 M last mark x.k t).2 = (if (at13 x.vs t).2 then 0 else 7)) := Lib.hid (fun j x hx => by
          have hr : risK (I.map (·.k)) := by
            have := hst.wf.1
            rw [hI] at this
            exact this
          have e : fndk M x.k = x.vs := by rw [fndk_map]; exact (congrArg (fun J => fndI J x.k) hI).trans (fndI_at hr hx)
          refine ⟨?_, ?_, ?_⟩
          · rw [← hI] at hx
            obtain ⟨p, hp, rfl⟩ := List.mem_map.1 (List.mem_of_getElem? hx)
            have := (BM.2 p hp).2
            unfold maxLen
            omega
          · unfold get14; rw [if_pos hk0, e]; split <;> rfl
          · unfold get14; rw [if_pos hk0, e]; split <;> rfl)
        have HI := Lib.hid hI
        have hnI : I.length ≤ 100000 := by rw [← hI, List.length_map]; exact BM.1
        have HSMn := Lib.hid (fun L v1 v2 X (h1 : Px X v1 L) (h2 : Px X v2 L) => refSame10 L v1 v2 X h1 h2)
        clear hst BM hk0 hPL hPM hpl2 hpm2
        have hpm : (pm : Int) = (if 0 ≤ most then min (pl : Int) most else (pl : Int)) := by
          by_cases hm : 0 ≤ most
          · rw [if_pos hm, ← HPML.out, HPM0.out hm, List.length_take, HPLL.out]; omega
          · rw [if_neg hm, ← HPML.out, HPM1.out (by omega), HPLL.out]
        have hpml : pm ≤ pl := by split at hpm <;> omega
        have HPT : Hid (PM = PL.take pm) := Lib.hid (by
          by_cases hm : 0 ≤ most
          · rw [if_pos hm] at hpm
            rw [HPM0.out hm]
            by_cases h : most ≤ pl
            · congr 1; omega
            · rw [List.take_of_length_le (by rw [HPLL.out]; omega), List.take_of_length_le (by rw [HPLL.out]; omega)]
          · rw [if_neg hm] at hpm
            rw [HPM1.out (by omega), List.take_of_length_le (by rw [HPLL.out]; omega)])
        have HPMI := Lib.hid hpm
        clear hpm
        go_upto_if 116 with (first
          | (go_at_call 22; refine (HS2.out _ T3.out).mono ?_; rintro e w4 ⟨A4, c4, rfl, hp4, hc4, ht4⟩; have P4 := Lib.hid hp4; have P3' := Lib.hid (P3.out.still ht4); have T4 := Lib.hid (T3.out.trans ht4); clear hp4 ht4)
          | (go_at_call 22; refine HS1.out.mono ?_; rintro e w3 ⟨A3, c3, rfl, hp3, hc3, ht3⟩; have P3 := Lib.hid hp3; have T3 := Lib.hid ht3; clear hp3 ht3))
        go_cut [21] (fun a21 wy => a21 = .int .i64 pm ∧ wy = w4)
        case first =>
          by_cases hm : 0 ≤ most
          · have e1 : min (pl : Int) most = (pm : Int) := by have := HPMI.out; rw [if_pos hm] at this; exact this.symm
            go_wp2_with fail
            go_meet
            exact ⟨rfl, rfl⟩
          · have e1 : (pl : Int) = (pm : Int) := by have := HPMI.out; rw [if_neg hm] at this; exact this.symm
            go_wp2_with fail
            go_meet
            first | exact ⟨rfl, rfl⟩ | exact ⟨by rw [e1], rfl⟩
        case rest =>
          obtain ⟨rfl, rfl⟩ := hcut
          have P5 := Lib.hid (px_take P3'.out hpml)
          rw [← HPT.out] at P5
          have hpmc : (pm : Int) ≤ (c3 : Int) := by omega
          have hpm0 : (0 : Int) ≤ (pm : Int) := by omega
          go_wp2_with (first
            | (go_at_call 25; refine (HSMn.out PM _ _ _ P4.out P5.out).mono ?_; rintro e w5 ⟨rfl, ht5⟩; have T5 := Lib.hid (T4.out.trans ht5); have P6 := Lib.hid (P3'.out.still ht5); clear ht5)
            | (go_at_call 29; refine (HITM.out _ T5.out).mono ?_; rintro e w6 ⟨v6, Ms, rfl, hio, hms, hx6, ht6⟩; have T6 := Lib.hid (T5.out.trans ht6); have P7 := Lib.hid (P6.out.still ht6); have hml : Ms.length = M.length := by { have := congrArg List.length hms; simpa using this }; have IX6 := Lib.hid (hio.ix (by have := hnI; rw [← HI.out, List.length_map] at this; omega)); have HMS := Lib.hid hms; have HML := Lib.hid hml; obtain ⟨A6, c6, hv6⟩ := own_slice_ hio.1; subst hv6; clear hio hx6 ht6 hms hml))
          obtain ⟨nI, hnI2⟩ : ∃ n, Ms.length = n := ⟨_, rfl⟩
          rw [hnI2] at IX6 ⊢
          have HNI := Lib.hid hnI2
          have HNI2 : Hid (I.length = nI) := Lib.hid (by rw [← hnI2, HML.out, ← HI.out, List.length_map])
          have HMI : Hid (Ms.map (fun p : Itm × Value => p.1) = I) := Lib.hid (HMS.out.trans HI.out)
          have hnb : nI ≤ 100000 := by rw [← HNI2.out]; exact hnI
          clear hnI2
          have HPK0 : Hid (pk14 I fa fb t 0 = 0) := Lib.hid (pk_zero I fa fb t)
          go_loopw [22, 24, 25, 26, 27] (fun v22 v24 _ _ _ wr => ∃ j k : Nat, j ≤ nI ∧ v24 = .int .i64 j ∧ v22 = .int .i64 k ∧ Hid (pk14 I fa fb t j = k) ∧ k ≤ j ∧ Turn (fun _ => False) w6 wr) (fun _ v24 _ _ _ _ => nI - (intOf v24).toNat)
          case atStart => exact ⟨0, 0, Nat.zero_le _, rfl, rfl, HPK0, Nat.le_refl _, Turn.refl _ _⟩
          case round =>
            clear HPK0
            obtain ⟨j, k, hj, rfl, rfl, HPK, hkj, ht⟩ := hrel
            obtain ⟨wy, rfl⟩ : ∃ W, W = wr := ⟨_, rfl⟩
            have TY := Lib.hid ht
            have TW := Lib.hid (T6.out.trans ht)
            have PA := Lib.hid (P7.out.still ht)
            clear ht
            by_cases hlt : j < nI
            · have hl1 : (j : Int) < (nI : Int) := by omega
              have hl0 : (0 : Int) ≤ (j : Int) := by omega
              have hq := wrap_of ((j : Int) + 1) (by omega) (by omega)
              have hq2 := wrap_of ((k : Int) + 1) (by omega) (by omega)
              obtain ⟨pr, hpr⟩ : ∃ x, Ms[j]? = some x := ⟨_, List.getElem?_eq_getElem (by rw [HNI.out]; exact hlt)⟩
              have hx : I[j]? = some pr.1 := by rw [← HMI.out]; simp [hpr]
              obtain ⟨b6, o6, hA6, hcc⟩ : ∃ b o, A6 = some ⟨b, o, none⟩ ∧ ∀ X, Turn (fun _ => False) w6 X → X.cell? ⟨b, o + j * 2, none⟩ = some (.string pr.1.k) := by
                obtain ⟨A', c', e, hl, hr, _⟩ := IX6.out
                injection e with e1 e2 e3
                subst e1
                obtain ⟨b, o, e, _, hc⟩ := hr.item (by omega)
                exact ⟨b, o, e, fun X hX => (hc X hX j pr hpr).1⟩
              subst hA6
              have HIT : Hid (∀ X, Turn (fun _ => False) wy X → X.cell? ⟨b6, o6 + j * 2, none⟩ = some (.string pr.1.k) ∧ True) := Lib.hid (fun X hX => ⟨hcc X (TY.out.trans hX), trivial⟩)
              obtain ⟨g1, g2, g3⟩ := HGV.out j pr.1 hx
              have HGT2 := Lib.hid (fun X (hX : Turn (fun _ => False) wx X) => HGT.out pr.1.k g1 X hX)
              rw [g2, g3] at HGT2
              have HPN := pk_next hx fa fb t
              rw [HPK.out] at HPN
              have HPA : Hid ((at13 pr.1.vs t).2 = true → win pr.1.k fa fb = true → PL[k]? = some ⟨pr.1.k, (at13 pr.1.vs t).1⟩) := Lib.hid (fun h1 h2 => by rw [HPI.out, ← HPK.out]; exact pk_at hx h1 h2)
              obtain ⟨⟨xk, xvs⟩, xv⟩ := pr
              simp only at HIT HGT2 HPN HPA g1
              obtain ⟨⟨av, ab⟩, hA⟩ : ∃ z, at13 xvs t = z := ⟨_, rfl⟩
              rw [hA] at HGT2 HPN HPA
              simp only at HGT2 HPN HPA
              obtain ⟨q0, _⟩ := HIT.out wy (Turn.refl _ _)
              have hwin : win xk fa fb = (!Op.bytesLess xk.toList fa.toList && ((fb.toList == []) || Op.bytesLess xk.toList fb.toList)) := by
                unfold win lt14
                rw [ByteArray.toList_eq xk, ByteArray.toList_eq fa, ByteArray.toList_eq fb]
                congr 2
                cases fb.data.toList <;> rfl
              rw [hwin] at HPN HPA
              obtain ⟨r1, h1⟩ : ∃ r, Op.bytesLess xk.toList fa.toList = r := ⟨_, rfl⟩
              obtain ⟨r2, h2⟩ : ∃ r, (fb.toList == []) = r := ⟨_, rfl⟩
              obtain ⟨r3, h3⟩ : ∃ r, Op.bytesLess xk.toList fb.toList = r := ⟨_, rfl⟩
              rw [h1, h2, h3] at HPN HPA
              have HNX := Lib.hid HPN
              clear hpr hx hcc g2 g3 HPN hA hwin
              have hways : r1 = true ∨ (r1 = false ∧ r2 = true) ∨ (r1 = false ∧ r2 = false ∧ r3 = true) ∨ (r1 = false ∧ r2 = false ∧ r3 = false) := by cases r1 <;> cases r2 <;> cases r3 <;> simp
              cases ab with
              | false =>
                simp only [Bool.false_eq_true, if_false] at HGT2
                rcases hways with rfl | ⟨rfl, rfl⟩ | ⟨rfl, rfl, rfl⟩ | ⟨rfl, rfl, rfl⟩
                all_goals
                  have HN2 : Hid (pk14 I fa fb t (j + 1) = k) := Lib.hid (by rw [HNX.out]; simp)
                  go_wp2_with (go_at_call 23; refine (HGT2.out _ TW.out).mono ?_; rintro e w7 ⟨rfl, ht7⟩; have T7 := Lib.hid (TY.out.trans ht7); have TW7 := Lib.hid ht7; obtain ⟨q1, _⟩ := HIT.out w7 ht7; clear ht7)
                  go_roundw
                  case rel => exact ⟨j + 1, k, by omega, by simp [hq], rfl, HN2, by omega, T7.out⟩
                  case measure => simp [intOf, hq]; omega
              | true =>
                simp only [if_true] at HGT2
                rcases hways with rfl | ⟨rfl, rfl⟩ | ⟨rfl, rfl, rfl⟩ | ⟨rfl, rfl, rfl⟩
                · have HN2 : Hid (pk14 I fa fb t (j + 1) = k) := Lib.hid (by rw [HNX.out]; simp)
                  go_wp2_with (go_at_call 23; refine (HGT2.out _ TW.out).mono ?_; rintro e w7 ⟨rfl, ht7⟩; have T7 := Lib.hid (TY.out.trans ht7); have TW7 := Lib.hid ht7; obtain ⟨q1, _⟩ := HIT.out w7 ht7; clear ht7)
                  go_roundw
                  case rel => exact ⟨j + 1, k, by omega, by simp [hq], rfl, HN2, by omega, T7.out⟩
                  case measure => simp [intOf, hq]; omega
                · have HN2 : Hid (pk14 I fa fb t (j + 1) = k + 1) := Lib.hid (by rw [HNX.out]; simp)
                  have hpk := HPA.out rfl (by simp)
                  have hkl : k < pl := by rw [← HPLL.out]; exact (List.getElem?_eq_some_iff.1 hpk).1
                  have hk1 : (k : Int) < (pl : Int) := by omega
                  have hk0 : (0 : Int) ≤ (k : Int) := by omega
                  obtain ⟨b3, o3, hA3, hc3⟩ : ∃ b o, A3 = some ⟨b, o, none⟩ ∧ ∀ X, Turn (fun _ => False) wy X → X.cell? ⟨b, o + k * 2, none⟩ = some (.string xk) ∧ X.cell? ⟨b, o + k * 2 + 1, none⟩ = some (.string av) := by
                    obtain ⟨A', c', e, hl, hr⟩ := PA.out
                    injection e with e1 e2 e3
                    subst e1
                    obtain ⟨b, o, e, _, hc⟩ := hr.pair (by rw [HPLL.out]; omega)
                    exact ⟨b, o, e, fun X hX => hc X hX k _ hpk⟩
                  subst hA3
                  have HAL := Lib.hid hc3
                  clear hc3 hpk HPA
                  go_upto_region 29 with (go_at_call 23; refine (HGT2.out _ TW.out).mono ?_; rintro e w7 ⟨rfl, ht7⟩; have T7 := Lib.hid (TY.out.trans ht7); have TW7 := Lib.hid ht7; obtain ⟨q1, _⟩ := HIT.out w7 ht7; clear ht7)
                  have T0 : Hid (Turn (fun _ => False) w7 w7.drew) := Lib.hid (Turn.refl _ _).drew
                  have hkd : decide ((pl : Int) ≤ (k : Int)) = false := by simp; omega
                  have hss := str_same xk
                  have hsv := str_same av
                  refine wp_region_noPanic ?_
                  refine wp_region_held_drew (S := (fun X => Turn (fun _ => False) w7 X)) (by kernel_rfl) T0.out (fun hHeld => ?_)
                  clear hHeld
                  refine wpAnyH_take (i := 0) (v := ?_) rfl (by kernel_rfl) (by kernel_rfl) (by kernel_rfl) (fun _ _ _ h => h) (Or.inl ⟨by rfl, ?_⟩) (by assumption) ?_
                  rotate_left 1
                  · intro w' hSw
                    go_simp
                    all_goals first | with_reducible rfl | (rw [if_neg (by omega)]; done) | (rw [if_pos (by omega)]; done) | (rw [if_neg (by omega)]; with_reducible rfl) | (rw [if_pos (by omega)]; with_reducible rfl)
                  try simp only [List.getElem_toArray, List.getElem_cons_zero, List.getElem_cons_succ, Act.put, List.setIfInBounds_toArray, List.set_cons_zero, List.set_cons_succ]
                  refine wpAnyH_take (i := 1) (v := ?_) rfl (by kernel_rfl) (by kernel_rfl) (by kernel_rfl) (fun _ _ _ h => h) (Or.inl ⟨by rfl, ?_⟩) (by assumption) ?_
                  rotate_left 1
                  · intro w' hSw
                    go_simp
                    all_goals first | with_reducible rfl | (rw [if_neg (by omega)]; done) | (rw [if_pos (by omega)]; done) | (rw [if_neg (by omega)]; with_reducible rfl) | (rw [if_pos (by omega)]; with_reducible rfl)
                  try simp only [List.getElem_toArray, List.getElem_cons_zero, List.getElem_cons_succ, Act.put, List.setIfInBounds_toArray, List.set_cons_zero, List.set_cons_succ]
                  refine wpAnyH_take (i := 2) (v := ?_) rfl (by kernel_rfl) (by kernel_rfl) (by kernel_rfl) (fun _ _ _ h => h) (Or.inl ⟨by rfl, ?_⟩) (by assumption) ?_
                  rotate_left 1
                  · intro w' hSw
                    go_simp
                    all_goals first | with_reducible rfl | (rw [if_neg (by omega)]; done) | (rw [if_pos (by omega)]; done) | (rw [if_neg (by omega)]; with_reducible rfl) | (rw [if_pos (by omega)]; with_reducible rfl)
                  try simp only [List.getElem_toArray, List.getElem_cons_zero, List.getElem_cons_succ, Act.put, List.setIfInBounds_toArray, List.set_cons_zero, List.set_cons_succ]
                  refine wpAnyH_take (i := 3) (v := .bool false) rfl (by kernel_rfl) (by kernel_rfl) (by kernel_rfl) (fun _ _ _ h => h) (Or.inl ⟨by rfl, ?_⟩) (by assumption) ?_
                  · intro w' hSw
                    go_simp
                    all_goals first | exact hkd | (simp only [hkd]; done) | (simp [hkd]; done) | with_reducible rfl | (rw [if_neg (by omega)]; done) | (rw [if_pos (by omega)]; done) | (rw [if_neg (by omega)]; with_reducible rfl) | (rw [if_pos (by omega)]; with_reducible rfl)
                  try simp only [List.getElem_toArray, List.getElem_cons_zero, List.getElem_cons_succ, Act.put, List.setIfInBounds_toArray, List.set_cons_zero, List.set_cons_succ]
                  refine wpAnyH_take (i := 4) (v := ?_) rfl (by kernel_rfl) (by kernel_rfl) (by kernel_rfl) (fun _ _ _ h => h) (Or.inl ⟨by rfl, ?_⟩) (by assumption) ?_
                  rotate_left 1
                  · intro w' hSw
                    go_simp
                    all_goals first | with_reducible rfl | (rw [if_neg (by omega)]; done) | (rw [if_pos (by omega)]; done) | (rw [if_neg (by omega)]; with_reducible rfl) | (rw [if_pos (by omega)]; with_reducible rfl)
                  try simp only [List.getElem_toArray, List.getElem_cons_zero, List.getElem_cons_succ, Act.put, List.setIfInBounds_toArray, List.set_cons_zero, List.set_cons_succ]
                  refine wpAnyH_take (i := 5) (v := ?_) rfl (by kernel_rfl) (by kernel_rfl) (by kernel_rfl) (fun _ _ _ h => h) (Or.inl ⟨by rfl, ?_⟩) (by assumption) ?_
                  rotate_left 1
                  · intro w' hSw
                    go_simp
                    all_goals first | with_reducible rfl | (rw [if_neg (by omega)]; done) | (rw [if_pos (by omega)]; done) | (rw [if_neg (by omega)]; with_reducible rfl) | (rw [if_pos (by omega)]; with_reducible rfl)
                  try simp only [List.getElem_toArray, List.getElem_cons_zero, List.getElem_cons_succ, Act.put, List.setIfInBounds_toArray, List.set_cons_zero, List.set_cons_succ]
                  refine wpAnyH_take (i := 6) (v := ?_) rfl (by kernel_rfl) (by kernel_rfl) (by kernel_rfl) (fun _ _ _ h => h) (Or.inl ⟨by rfl, ?_⟩) (by assumption) ?_
                  rotate_left 1
                  · intro w' hSw
                    go_simp
                    all_goals first | with_reducible rfl | (rw [if_neg (by omega)]; done) | (rw [if_pos (by omega)]; done) | (rw [if_neg (by omega)]; with_reducible rfl) | (rw [if_pos (by omega)]; with_reducible rfl)
                  try simp only [List.getElem_toArray, List.getElem_cons_zero, List.getElem_cons_succ, Act.put, List.setIfInBounds_toArray, List.set_cons_zero, List.set_cons_succ]
                  refine wpAnyH_take (i := 7) (v := ?_) rfl (by kernel_rfl) (by kernel_rfl) (by kernel_rfl) (fun _ _ _ h => h) (Or.inl ⟨by rfl, ?_⟩) (by assumption) ?_
                  rotate_left 1
                  · intro w' hSw
                    go_simp
                    all_goals first | with_reducible rfl | (rw [if_neg (by omega)]; done) | (rw [if_pos (by omega)]; done) | (rw [if_neg (by omega)]; with_reducible rfl) | (rw [if_pos (by omega)]; with_reducible rfl)
                  try simp only [List.getElem_toArray, List.getElem_cons_zero, List.getElem_cons_succ, Act.put, List.setIfInBounds_toArray, List.set_cons_zero, List.set_cons_succ]
                  refine wpAnyH_take (i := 8) (v := ?_) rfl (by kernel_rfl) (by kernel_rfl) (by kernel_rfl) (fun _ _ _ h => h) (Or.inl ⟨by rfl, ?_⟩) (by assumption) ?_
                  rotate_left 1
                  · intro w' hSw
                    obtain ⟨y0, y1⟩ := HAL.out _ (TW7.out.trans hSw)
                    go_simp
                    all_goals first | with_reducible rfl | (rw [if_neg (by omega)]; done) | (rw [if_pos (by omega)]; done) | (rw [if_neg (by omega)]; with_reducible rfl) | (rw [if_pos (by omega)]; with_reducible rfl)
                  try simp only [List.getElem_toArray, List.getElem_cons_zero, List.getElem_cons_succ, Act.put, List.setIfInBounds_toArray, List.set_cons_zero, List.set_cons_succ]
                  refine wpAnyH_take (i := 9) (v := ?_) rfl (by kernel_rfl) (by kernel_rfl) (by kernel_rfl) (fun _ _ _ h => h) (Or.inl ⟨by rfl, ?_⟩) (by assumption) ?_
                  rotate_left 1
                  · intro w' hSw
                    go_simp
                    all_goals first | with_reducible rfl | (rw [if_neg (by omega)]; done) | (rw [if_pos (by omega)]; done) | (rw [if_neg (by omega)]; with_reducible rfl) | (rw [if_pos (by omega)]; with_reducible rfl)
                  try simp only [List.getElem_toArray, List.getElem_cons_zero, List.getElem_cons_succ, Act.put, List.setIfInBounds_toArray, List.set_cons_zero, List.set_cons_succ]
                  refine wpAnyH_take (i := 10) (v := ?_) rfl (by kernel_rfl) (by kernel_rfl) (by kernel_rfl) (fun _ _ _ h => h) (Or.inl ⟨by rfl, ?_⟩) (by assumption) ?_
                  rotate_left 1
                  · intro w' hSw
                    go_simp
                    all_goals first | with_reducible rfl | (rw [if_neg (by omega)]; done) | (rw [if_pos (by omega)]; done) | (rw [if_neg (by omega)]; with_reducible rfl) | (rw [if_pos (by omega)]; with_reducible rfl)
                  try simp only [List.getElem_toArray, List.getElem_cons_zero, List.getElem_cons_succ, Act.put, List.setIfInBounds_toArray, List.set_cons_zero, List.set_cons_succ]
                  refine wpAnyH_take (i := 11) (v := ?_) rfl (by kernel_rfl) (by kernel_rfl) (by kernel_rfl) (fun _ _ _ h => h) (Or.inl ⟨by rfl, ?_⟩) (by assumption) ?_
                  rotate_left 1
                  · intro w' hSw
                    go_simp
                    all_goals first | with_reducible rfl | (rw [if_neg (by omega)]; done) | (rw [if_pos (by omega)]; done) | (rw [if_neg (by omega)]; with_reducible rfl) | (rw [if_pos (by omega)]; with_reducible rfl)
                  try simp only [List.getElem_toArray, List.getElem_cons_zero, List.getElem_cons_succ, Act.put, List.setIfInBounds_toArray, List.set_cons_zero, List.set_cons_succ]
                  refine wpAnyH_take (i := 12) (v := ?_) rfl (by kernel_rfl) (by kernel_rfl) (by kernel_rfl) (fun _ _ _ h => h) (Or.inl ⟨by rfl, ?_⟩) (by assumption) ?_
                  rotate_left 1
                  · intro w' hSw
                    go_simp
                    all_goals first | with_reducible rfl | (rw [if_neg (by omega)]; done) | (rw [if_pos (by omega)]; done) | (rw [if_neg (by omega)]; with_reducible rfl) | (rw [if_pos (by omega)]; with_reducible rfl)
                  try simp only [List.getElem_toArray, List.getElem_cons_zero, List.getElem_cons_succ, Act.put, List.setIfInBounds_toArray, List.set_cons_zero, List.set_cons_succ]
                  refine wpAnyH_take (i := 13) (v := ?_) rfl (by kernel_rfl) (by kernel_rfl) (by kernel_rfl) (fun _ _ _ h => h) (Or.inl ⟨by rfl, ?_⟩) (by assumption) ?_
                  rotate_left 1
                  · intro w' hSw
                    obtain ⟨y2, _⟩ := HIT.out _ (TW7.out.trans hSw)
                    go_simp
                    all_goals first | with_reducible rfl | (rw [if_neg (by omega)]; done) | (rw [if_pos (by omega)]; done) | (rw [if_neg (by omega)]; with_reducible rfl) | (rw [if_pos (by omega)]; with_reducible rfl)
                  try simp only [List.getElem_toArray, List.getElem_cons_zero, List.getElem_cons_succ, Act.put, List.setIfInBounds_toArray, List.set_cons_zero, List.set_cons_succ]
                  refine wpAnyH_take (i := 14) (v := ?_) rfl (by kernel_rfl) (by kernel_rfl) (by kernel_rfl) (fun _ _ _ h => h) (Or.inl ⟨by rfl, ?_⟩) (by assumption) ?_
                  rotate_left 1
                  · intro w' hSw
                    go_simp
                    all_goals first | with_reducible rfl | (rw [if_neg (by omega)]; done) | (rw [if_pos (by omega)]; done) | (rw [if_neg (by omega)]; with_reducible rfl) | (rw [if_pos (by omega)]; with_reducible rfl)
                  try simp only [List.getElem_toArray, List.getElem_cons_zero, List.getElem_cons_succ, Act.put, List.setIfInBounds_toArray, List.set_cons_zero, List.set_cons_succ]
                  refine wpAnyH_take (i := 15) (v := ?_) rfl (by kernel_rfl) (by kernel_rfl) (by kernel_rfl) (fun _ _ _ h => h) (Or.inl ⟨by rfl, ?_⟩) (by assumption) ?_
                  rotate_left 1
                  · intro w' hSw
                    go_simp
                    all_goals first | with_reducible rfl | (rw [if_neg (by omega)]; done) | (rw [if_pos (by omega)]; done) | (rw [if_neg (by omega)]; with_reducible rfl) | (rw [if_pos (by omega)]; with_reducible rfl)
                  try simp only [List.getElem_toArray, List.getElem_cons_zero, List.getElem_cons_succ, Act.put, List.setIfInBounds_toArray, List.set_cons_zero, List.set_cons_succ]
                  refine wpAnyH_take (i := 16) (v := .bool false) rfl (by kernel_rfl) (by kernel_rfl) (by kernel_rfl) (fun _ _ _ h => h) (Or.inl ⟨by rfl, ?_⟩) (by assumption) ?_
                  · intro w' hSw
                    go_simp
                    all_goals first | (simp [hss, hsv]; done) | with_reducible rfl | (rw [if_neg (by omega)]; done) | (rw [if_pos (by omega)]; done) | (rw [if_neg (by omega)]; with_reducible rfl) | (rw [if_pos (by omega)]; with_reducible rfl)
                  try simp only [List.getElem_toArray, List.getElem_cons_zero, List.getElem_cons_succ, Act.put, List.setIfInBounds_toArray, List.set_cons_zero, List.set_cons_succ]
                  refine wpAnyH_take (i := 17) (v := ?_) rfl (by kernel_rfl) (by kernel_rfl) (by kernel_rfl) (fun _ _ _ h => h) (Or.inl ⟨by rfl, ?_⟩) (by assumption) ?_
                  rotate_left 1
                  · intro w' hSw
                    go_simp
                    all_goals first | with_reducible rfl | (rw [if_neg (by omega)]; done) | (rw [if_pos (by omega)]; done) | (rw [if_neg (by omega)]; with_reducible rfl) | (rw [if_pos (by omega)]; with_reducible rfl)
                  try simp only [List.getElem_toArray, List.getElem_cons_zero, List.getElem_cons_succ, Act.put, List.setIfInBounds_toArray, List.set_cons_zero, List.set_cons_succ]
                  refine wpAnyH_done (by kernel_rfl) ?_ _
                  refine NoPanic.normal ?_
                  go_wp2_with fail
                  go_roundw
                  case rel => exact ⟨j + 1, k + 1, by omega, by simp [hq], by simp [hq2], HN2, by omega, T7.out.trans T0.out⟩
                  case measure => simp [intOf, hq]; omega
                · have HN2 : Hid (pk14 I fa fb t (j + 1) = k + 1) := Lib.hid (by rw [HNX.out]; simp)
                  have hpk := HPA.out rfl (by simp)
                  have hkl : k < pl := by rw [← HPLL.out]; exact (List.getElem?_eq_some_iff.1 hpk).1
                  have hk1 : (k : Int) < (pl : Int) := by omega
                  have hk0 : (0 : Int) ≤ (k : Int) := by omega
                  obtain ⟨b3, o3, hA3, hc3⟩ : ∃ b o, A3 = some ⟨b, o, none⟩ ∧ ∀ X, Turn (fun _ => False) wy X → X.cell? ⟨b, o + k * 2, none⟩ = some (.string xk) ∧ X.cell? ⟨b, o + k * 2 + 1, none⟩ = some (.string av) := by
                    obtain ⟨A', c', e, hl, hr⟩ := PA.out
                    injection e with e1 e2 e3
                    subst e1
                    obtain ⟨b, o, e, _, hc⟩ := hr.pair (by rw [HPLL.out]; omega)
                    exact ⟨b, o, e, fun X hX => hc X hX k _ hpk⟩
                  subst hA3
                  have HAL := Lib.hid hc3
                  clear hc3 hpk HPA
                  go_upto_region 29 with (go_at_call 23; refine (HGT2.out _ TW.out).mono ?_; rintro e w7 ⟨rfl, ht7⟩; have T7 := Lib.hid (TY.out.trans ht7); have TW7 := Lib.hid ht7; obtain ⟨q1, _⟩ := HIT.out w7 ht7; clear ht7)
                  have T0 : Hid (Turn (fun _ => False) w7 w7.drew) := Lib.hid (Turn.refl _ _).drew
                  have hkd : decide ((pl : Int) ≤ (k : Int)) = false := by simp; omega
                  have hss := str_same xk
                  have hsv := str_same av
                  refine wp_region_noPanic ?_
                  refine wp_region_held_drew (S := (fun X => Turn (fun _ => False) w7 X)) (by kernel_rfl) T0.out (fun hHeld => ?_)
                  clear hHeld
                  refine wpAnyH_take (i := 0) (v := ?_) rfl (by kernel_rfl) (by kernel_rfl) (by kernel_rfl) (fun _ _ _ h => h) (Or.inl ⟨by rfl, ?_⟩) (by assumption) ?_
                  rotate_left 1
                  · intro w' hSw
                    go_simp
                    all_goals first | with_reducible rfl | (rw [if_neg (by omega)]; done) | (rw [if_pos (by omega)]; done) | (rw [if_neg (by omega)]; with_reducible rfl) | (rw [if_pos (by omega)]; with_reducible rfl)
                  try simp only [List.getElem_toArray, List.getElem_cons_zero, List.getElem_cons_succ, Act.put, List.setIfInBounds_toArray, List.set_cons_zero, List.set_cons_succ]
                  refine wpAnyH_take (i := 1) (v := ?_) rfl (by kernel_rfl) (by kernel_rfl) (by kernel_rfl) (fun _ _ _ h => h) (Or.inl ⟨by rfl, ?_⟩) (by assumption) ?_
                  rotate_left 1
                  · intro w' hSw
                    go_simp
                    all_goals first | with_reducible rfl | (rw [if_neg (by omega)]; done) | (rw [if_pos (by omega)]; done) | (rw [if_neg (by omega)]; with_reducible rfl) | (rw [if_pos (by omega)]; with_reducible rfl)
                  try simp only [List.getElem_toArray, List.getElem_cons_zero, List.getElem_cons_succ, Act.put, List.setIfInBounds_toArray, List.set_cons_zero, List.set_cons_succ]
                  refine wpAnyH_take (i := 2) (v := ?_) rfl (by kernel_rfl) (by kernel_rfl) (by kernel_rfl) (fun _ _ _ h => h) (Or.inl ⟨by rfl, ?_⟩) (by assumption) ?_
                  rotate_left 1
                  · intro w' hSw
                    go_simp
                    all_goals first | with_reducible rfl | (rw [if_neg (by omega)]; done) | (rw [if_pos (by omega)]; done) | (rw [if_neg (by omega)]; with_reducible rfl) | (rw [if_pos (by omega)]; with_reducible rfl)
                  try simp only [List.getElem_toArray, List.getElem_cons_zero, List.getElem_cons_succ, Act.put, List.setIfInBounds_toArray, List.set_cons_zero, List.set_cons_succ]
                  refine wpAnyH_take (i := 3) (v := .bool false) rfl (by kernel_rfl) (by kernel_rfl) (by kernel_rfl) (fun _ _ _ h => h) (Or.inl ⟨by rfl, ?_⟩) (by assumption) ?_
                  · intro w' hSw
                    go_simp
                    all_goals first | exact hkd | (simp only [hkd]; done) | (simp [hkd]; done) | with_reducible rfl | (rw [if_neg (by omega)]; done) | (rw [if_pos (by omega)]; done) | (rw [if_neg (by omega)]; with_reducible rfl) | (rw [if_pos (by omega)]; with_reducible rfl)
                  try simp only [List.getElem_toArray, List.getElem_cons_zero, List.getElem_cons_succ, Act.put, List.setIfInBounds_toArray, List.set_cons_zero, List.set_cons_succ]
                  refine wpAnyH_take (i := 4) (v := ?_) rfl (by kernel_rfl) (by kernel_rfl) (by kernel_rfl) (fun _ _ _ h => h) (Or.inl ⟨by rfl, ?_⟩) (by assumption) ?_
                  rotate_left 1
                  · intro w' hSw
                    go_simp
                    all_goals first | with_reducible rfl | (rw [if_neg (by omega)]; done) | (rw [if_pos (by omega)]; done) | (rw [if_neg (by omega)]; with_reducible rfl) | (rw [if_pos (by omega)]; with_reducible rfl)
                  try simp only [List.getElem_toArray, List.getElem_cons_zero, List.getElem_cons_succ, Act.put, List.setIfInBounds_toArray, List.set_cons_zero, List.set_cons_succ]
                  refine wpAnyH_take (i := 5) (v := ?_) rfl (by kernel_rfl) (by kernel_rfl) (by kernel_rfl) (fun _ _ _ h => h) (Or.inl ⟨by rfl, ?_⟩) (by assumption) ?_
                  rotate_left 1
                  · intro w' hSw
                    go_simp
                    all_goals first | with_reducible rfl | (rw [if_neg (by omega)]; done) | (rw [if_pos (by omega)]; done) | (rw [if_neg (by omega)]; with_reducible rfl) | (rw [if_pos (by omega)]; with_reducible rfl)
                  try simp only [List.getElem_toArray, List.getElem_cons_zero, List.getElem_cons_succ, Act.put, List.setIfInBounds_toArray, List.set_cons_zero, List.set_cons_succ]
                  refine wpAnyH_take (i := 6) (v := ?_) rfl (by kernel_rfl) (by kernel_rfl) (by kernel_rfl) (fun _ _ _ h => h) (Or.inl ⟨by rfl, ?_⟩) (by assumption) ?_
                  rotate_left 1
                  · intro w' hSw
                    go_simp
                    all_goals first | with_reducible rfl | (rw [if_neg (by omega)]; done) | (rw [if_pos (by omega)]; done) | (rw [if_neg (by omega)]; with_reducible rfl) | (rw [if_pos (by omega)]; with_reducible rfl)
                  try simp only [List.getElem_toArray, List.getElem_cons_zero, List.getElem_cons_succ, Act.put, List.setIfInBounds_toArray, List.set_cons_zero, List.set_cons_succ]
                  refine wpAnyH_take (i := 7) (v := ?_) rfl (by kernel_rfl) (by kernel_rfl) (by kernel_rfl) (fun _ _ _ h => h) (Or.inl ⟨by rfl, ?_⟩) (by assumption) ?_
                  rotate_left 1
                  · intro w' hSw
                    go_simp
                    all_goals first | with_reducible rfl | (rw [if_neg (by omega)]; done) | (rw [if_pos (by omega)]; done) | (rw [if_neg (by omega)]; with_reducible rfl) | (rw [if_pos (by omega)]; with_reducible rfl)
                  try simp only [List.getElem_toArray, List.getElem_cons_zero, List.getElem_cons_succ, Act.put, List.setIfInBounds_toArray, List.set_cons_zero, List.set_cons_succ]
                  refine wpAnyH_take (i := 8) (v := ?_) rfl (by kernel_rfl) (by kernel_rfl) (by kernel_rfl) (fun _ _ _ h => h) (Or.inl ⟨by rfl, ?_⟩) (by assumption) ?_
                  rotate_left 1
                  · intro w' hSw
                    obtain ⟨y0, y1⟩ := HAL.out _ (TW7.out.trans hSw)
                    go_simp
                    all_goals first | with_reducible rfl | (rw [if_neg (by omega)]; done) | (rw [if_pos (by omega)]; done) | (rw [if_neg (by omega)]; with_reducible rfl) | (rw [if_pos (by omega)]; with_reducible rfl)
                  try simp only [List.getElem_toArray, List.getElem_cons_zero, List.getElem_cons_succ, Act.put, List.setIfInBounds_toArray, List.set_cons_zero, List.set_cons_succ]
                  refine wpAnyH_take (i := 9) (v := ?_) rfl (by kernel_rfl) (by kernel_rfl) (by kernel_rfl) (fun _ _ _ h => h) (Or.inl ⟨by rfl, ?_⟩) (by assumption) ?_
                  rotate_left 1
                  · intro w' hSw
                    go_simp
                    all_goals first | with_reducible rfl | (rw [if_neg (by omega)]; done) | (rw [if_pos (by omega)]; done) | (rw [if_neg (by omega)]; with_reducible rfl) | (rw [if_pos (by omega)]; with_reducible rfl)
                  try simp only [List.getElem_toArray, List.getElem_cons_zero, List.getElem_cons_succ, Act.put, List.setIfInBounds_toArray, List.set_cons_zero, List.set_cons_succ]
                  refine wpAnyH_take (i := 10) (v := ?_) rfl (by kernel_rfl) (by kernel_rfl) (by kernel_rfl) (fun _ _ _ h => h) (Or.inl ⟨by rfl, ?_⟩) (by assumption) ?_
                  rotate_left 1
                  · intro w' hSw
                    go_simp
                    all_goals first | with_reducible rfl | (rw [if_neg (by omega)]; done) | (rw [if_pos (by omega)]; done) | (rw [if_neg (by omega)]; with_reducible rfl) | (rw [if_pos (by omega)]; with_reducible rfl)
                  try simp only [List.getElem_toArray, List.getElem_cons_zero, List.getElem_cons_succ, Act.put, List.setIfInBounds_toArray, List.set_cons_zero, List.set_cons_succ]
                  refine wpAnyH_take (i := 11) (v := ?_) rfl (by kernel_rfl) (by kernel_rfl) (by kernel_rfl) (fun _ _ _ h => h) (Or.inl ⟨by rfl, ?_⟩) (by assumption) ?_
                  rotate_left 1
                  · intro w' hSw
                    go_simp
                    all_goals first | with_reducible rfl | (rw [if_neg (by omega)]; done) | (rw [if_pos (by omega)]; done) | (rw [if_neg (by omega)]; with_reducible rfl) | (rw [if_pos (by omega)]; with_reducible rfl)
                  try simp only [List.getElem_toArray, List.getElem_cons_zero, List.getElem_cons_succ, Act.put, List.setIfInBounds_toArray, List.set_cons_zero, List.set_cons_succ]
                  refine wpAnyH_take (i := 12) (v := ?_) rfl (by kernel_rfl) (by kernel_rfl) (by kernel_rfl) (fun _ _ _ h => h) (Or.inl ⟨by rfl, ?_⟩) (by assumption) ?_
                  rotate_left 1
                  · intro w' hSw
                    go_simp
                    all_goals first | with_reducible rfl | (rw [if_neg (by omega)]; done) | (rw [if_pos (by omega)]; done) | (rw [if_neg (by omega)]; with_reducible rfl) | (rw [if_pos (by omega)]; with_reducible rfl)
                  try simp only [List.getElem_toArray, List.getElem_cons_zero, List.getElem_cons_succ, Act.put, List.setIfInBounds_toArray, List.set_cons_zero, List.set_cons_succ]
                  refine wpAnyH_take (i := 13) (v := ?_) rfl (by kernel_rfl) (by kernel_rfl) (by kernel_rfl) (fun _ _ _ h => h) (Or.inl ⟨by rfl, ?_⟩) (by assumption) ?_
                  rotate_left 1
                  · intro w' hSw
                    obtain ⟨y2, _⟩ := HIT.out _ (TW7.out.trans hSw)
                    go_simp
                    all_goals first | with_reducible rfl | (rw [if_neg (by omega)]; done) | (rw [if_pos (by omega)]; done) | (rw [if_neg (by omega)]; with_reducible rfl) | (rw [if_pos (by omega)]; with_reducible rfl)
                  try simp only [List.getElem_toArray, List.getElem_cons_zero, List.getElem_cons_succ, Act.put, List.setIfInBounds_toArray, List.set_cons_zero, List.set_cons_succ]
                  refine wpAnyH_take (i := 14) (v := ?_) rfl (by kernel_rfl) (by kernel_rfl) (by kernel_rfl) (fun _ _ _ h => h) (Or.inl ⟨by rfl, ?_⟩) (by assumption) ?_
                  rotate_left 1
                  · intro w' hSw
                    go_simp
                    all_goals first | with_reducible rfl | (rw [if_neg (by omega)]; done) | (rw [if_pos (by omega)]; done) | (rw [if_neg (by omega)]; with_reducible rfl) | (rw [if_pos (by omega)]; with_reducible rfl)
                  try simp only [List.getElem_toArray, List.getElem_cons_zero, List.getElem_cons_succ, Act.put, List.setIfInBounds_toArray, List.set_cons_zero, List.set_cons_succ]
                  refine wpAnyH_take (i := 15) (v := ?_) rfl (by kernel_rfl) (by kernel_rfl) (by kernel_rfl) (fun _ _ _ h => h) (Or.inl ⟨by rfl, ?_⟩) (by assumption) ?_
                  rotate_left 1
                  · intro w' hSw
                    go_simp
                    all_goals first | with_reducible rfl | (rw [if_neg (by omega)]; done) | (rw [if_pos (by omega)]; done) | (rw [if_neg (by omega)]; with_reducible rfl) | (rw [if_pos (by omega)]; with_reducible rfl)
                  try simp only [List.getElem_toArray, List.getElem_cons_zero, List.getElem_cons_succ, Act.put, List.setIfInBounds_toArray, List.set_cons_zero, List.set_cons_succ]
                  refine wpAnyH_take (i := 16) (v := .bool false) rfl (by kernel_rfl) (by kernel_rfl) (by kernel_rfl) (fun _ _ _ h => h) (Or.inl ⟨by rfl, ?_⟩) (by assumption) ?_
                  · intro w' hSw
                    go_simp
                    all_goals first | (simp [hss, hsv]; done) | with_reducible rfl | (rw [if_neg (by omega)]; done) | (rw [if_pos (by omega)]; done) | (rw [if_neg (by omega)]; with_reducible rfl) | (rw [if_pos (by omega)]; with_reducible rfl)
                  try simp only [List.getElem_toArray, List.getElem_cons_zero, List.getElem_cons_succ, Act.put, List.setIfInBounds_toArray, List.set_cons_zero, List.set_cons_succ]
                  refine wpAnyH_take (i := 17) (v := ?_) rfl (by kernel_rfl) (by kernel_rfl) (by kernel_rfl) (fun _ _ _ h => h) (Or.inl ⟨by rfl, ?_⟩) (by assumption) ?_
                  rotate_left 1
                  · intro w' hSw
                    go_simp
                    all_goals first | with_reducible rfl | (rw [if_neg (by omega)]; done) | (rw [if_pos (by omega)]; done) | (rw [if_neg (by omega)]; with_reducible rfl) | (rw [if_pos (by omega)]; with_reducible rfl)
                  try simp only [List.getElem_toArray, List.getElem_cons_zero, List.getElem_cons_succ, Act.put, List.setIfInBounds_toArray, List.set_cons_zero, List.set_cons_succ]
                  refine wpAnyH_done (by kernel_rfl) ?_ _
                  refine NoPanic.normal ?_
                  go_wp2_with fail
                  go_roundw
                  case rel => exact ⟨j + 1, k + 1, by omega, by simp [hq], by simp [hq2], HN2, by omega, T7.out.trans T0.out⟩
                  case measure => simp [intOf, hq]; omega
                · have HN2 : Hid (pk14 I fa fb t (j + 1) = k) := Lib.hid (by rw [HNX.out]; simp)
                  go_wp2_with (go_at_call 23; refine (HGT2.out _ TW.out).mono ?_; rintro e w7 ⟨rfl, ht7⟩; have T7 := Lib.hid (TY.out.trans ht7); have TW7 := Lib.hid ht7; obtain ⟨q1, _⟩ := HIT.out w7 ht7; clear ht7)
                  go_roundw
                  case rel => exact ⟨j + 1, k, by omega, by simp [hq], rfl, HN2, by omega, T7.out⟩
                  case measure => simp [intOf, hq]; omega
            · obtain rfl : j = nI := by omega
              have HKE : Hid (k = pl) := Lib.hid (by rw [← HPK.out, ← HNI2.out, pk_all, ← HPI.out, HPLL.out])
              obtain rfl : k = pl := HKE.out
              clear HKE
              go_wp2_with (go_at_call 14; refine (lives_14 _).mono ?_; rintro e w9 ⟨rfl, t9⟩)
              go_ret
              exact ⟨rfl, (LP.out.2.2.2.2.2.trans TW.out).trans t9⟩
      · obtain ⟨ke, hke⟩ : ∃ x, kept14 last mark t = x := ⟨_, rfl⟩
        have HSC := Lib.hid (fun m X (hX : Turn (fun _ => False) wx X) => scan_14e fa fb t m (hst.sp.still hX) hk0)
        have HMK := Lib.hid (fun X (hX : Turn (fun _ => False) wx X) => mark14 (hst.sp.still hX))
        have HLA := Lib.hid (fun X (hX : Turn (fun _ => False) wx X) => last14 (hst.sp.still hX))
        have hkw : (t < mark ∧ ke = 12) ∨ (¬ t < mark ∧ last < t ∧ ke = 13) := by
          rw [← hke]
          unfold kept14 at hk0 ⊢
          by_cases h1 : t < mark
          · exact .inl ⟨h1, by rw [if_pos h1]⟩
          · by_cases h2 : last < t
            · exact .inr ⟨h1, h2, by rw [if_neg h1, if_pos h2]⟩
            · rw [if_neg h1, if_neg h2] at hk0; exact absurd rfl hk0
        rw [hke] at HSC
        have h6 := LP.out.2.2.2.2.2
        clear hst BM hk0 hke
        rcases hkw with ⟨h1, rfl⟩ | ⟨h1, h2, rfl⟩
        all_goals
          go_wp2_with (first
            | (go_at_call 22; refine (HSC.out _ _ T3.out).mono ?_; rintro e w4 ⟨rfl, ht4⟩; have T4 := Lib.hid (T3.out.trans ht4); clear ht4)
            | (go_at_call 22; refine (HSC.out _ _ (Turn.refl _ _)).mono ?_; rintro e w3 ⟨rfl, ht3⟩; have T3 := Lib.hid ht3; clear ht3)
            | (go_at_call 24; refine (HMK.out _ T4.out).mono ?_; rintro e wm ⟨rfl, hwm⟩; obtain rfl : w4 = wm := hwm.symm)
            | (go_at_call 28; refine (HLA.out _ T4.out).mono ?_; rintro e wm ⟨rfl, hwm⟩; obtain rfl : w4 = wm := hwm.symm)
            | (go_at_call 14; refine (lives_14 _).mono ?_; rintro e w9 ⟨rfl, t9⟩))
          go_ret
          exact ⟨rfl, (h6.trans T4.out).trans t9⟩
end Go.Proofs.Ytobddfpdijmgiaa
