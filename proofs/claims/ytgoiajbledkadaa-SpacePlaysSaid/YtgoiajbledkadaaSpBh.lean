/- Layer 14: a step of any kind; SpacePlays: its walk. (mkSpBh.py) -/
import Derived.Test.YtgoiajbledkadaaSpBd
import Derived.Test.YtgoiajbledkadaaSpBe
import Derived.Test.YtgoiajbledkadaaSpBg
namespace Go.Proofs.Ytgoiajbledkadaa
open Go.RowKit Go.Shelf
set_option linter.unusedVariables false
set_option linter.unusedSimpArgs false
set_option maxRecDepth 100000
attribute [local go_sem] Oper.semAt_some

theorem Stp.le {w w' : World} {q g N K : Nat} {vk v : Value} (h : Stp w q vk g N v w') (hk : N ≤ K) : Stp w q vk g K v w' := by
  obtain ⟨q', vk', g', M', last', mark', mv', Md', h1, h2, h3, h4⟩ := h
  exact ⟨q', vk', g', M', last', mark', mv', Md', h1, ⟨h2.sp, h2.ix, h2.eq, h2.wf, h2.rng, h2.ap, h2.bm.le hk⟩, h3, h4⟩
theorem step_14 {w : World} {q g : Nat} {vk mv lv : Value} {M Md : List (Itm × Value)} {last mark : Int} {N : Nat} (k t : Int) (L : List Cg) (h : St14 w q vk g M last mark mv Md N) (hN : N ≤ 20000) (hlv : Cx w lv L) (hL : L.length ≤ 1000) (ht : -100 ≤ t ∧ t ≤ 1099511627776) :
    Calls Try.prog 12 #[.pointer (some ⟨q, 0, none⟩), .agg #[mv, .int .i64 last, .int .i64 mark], .agg #[.int .i64 k, .int .i64 t, lv]] w fun e w' => ∃ v, e = .returned v ∧ Stp w q vk g (N + 1 + L.length) v w' := by
  have hs : ∃ A n c, lv = .slice A n c := by obtain ⟨A, c, e, _⟩ := hlv; exact ⟨A, _, c, e⟩
  by_cases h1 : k = 1
  · subst h1
    exact (step_vac14 t h hN hs ht).mono fun e w' ⟨v, e1, e2⟩ => ⟨v, e1, e2.le (by omega)⟩
  by_cases h2 : k = 2
  · subst h2
    exact (step_cpy14 t h hN hs).mono fun e w' ⟨v, e1, e2⟩ => ⟨v, e1, e2.le (by omega)⟩
  by_cases h3 : k = 3
  · subst h3
    exact (step_lod14 t h hN hs).mono fun e w' ⟨v, e1, e2⟩ => ⟨v, e1, e2.le (by omega)⟩
  exact (step_apl14 k t L h hN hlv hL ht h1 h2 h3).mono fun e w' ⟨v, e1, e2⟩ => ⟨v, e1, e2.le (by omega)⟩
theorem ix_not_blk {w : World} {b t : Nat} {cs : List Value} {v : Value} {M : List (Itm × Value)} (h : Ix w v M) (hB : Blk w b t cs) (hs : ∀ c ∈ cs, ∀ s, c ≠ .string s) : Ap14 b v M := by
  obtain ⟨A, c, rfl, hl, hr, hw⟩ := h
  refine ⟨fun h0 b' hb e => ?_, fun p hp h0 b' hb e => ?_⟩
  · subst e
    obtain ⟨b2, o, rfl, _, hc⟩ := hr (by rw [flat_len ic_len]; omega)
    have e : some b2 = some b' := hb
    cases e
    obtain ⟨p, hp⟩ : ∃ p, M[0]? = some p := ⟨_, List.getElem?_eq_getElem h0⟩
    have h1 := hc 0 (.string p.1.k) (by have := flat_at ic_len M 0 0 p hp (by omega); simpa [ic] using this)
    rw [hB.cell] at h1
    exact hs _ (List.mem_of_getElem? h1) _ rfl
  · subst e
    exact vr_not_blk (hw p hp) h0 hb hB hs
theorem St14.box {w w' : World} {q g b t N : Nat} {vk mv : Value} {cs : List Value} {M Md : List (Itm × Value)} {last mark : Int} (h : St14 w q vk g M last mark mv Md N) (hB : Blk w b t cs) (hs : ∀ c ∈ cs, ∀ s, c ≠ .string s) (hne : ∀ k, Sw q vk g k → k ≠ b) (ht : Turn (fun k => k = b) w w') : St14 w' q vk g M last mark mv Md N :=
  ⟨h.sp.turn ht (hne _ (.inl rfl)) (hne _ (.inr (.inl rfl))) (fun k hk => hne k (.inr (.inr hk))) (fun p hp h0 b2 hb e => by subst e; exact vr_not_blk (h.sp.vers p hp).1.1 h0 hb hB hs), h.ix.turn (ix_not_blk h.ix hB hs) ht, h.eq, h.wf, h.rng, h.ap, h.bm⟩
theorem cn14_le (qs : List Ac14) (i : Nat) : cn14 (qs.take i) ≤ cn14 qs := by
  have h : cn14 qs = cn14 (qs.take i) + cn14 (qs.drop i) := by
    unfold cn14
    rw [← List.sum_append, ← List.map_append, List.take_append_drop]
  omega
/-- What holds at the head of a round. -/
def Lp14 (w : World) (mb : Nat) (qs : List Ac14) (i : Nat) (q : Nat) (vk : Value) (g : Nat) (last mark : Int) (mv : Value) (X : World) : Prop :=
  (∃ M Md, St14 X q vk g M last mark mv Md (cn14 (qs.take i))) ∧ Blk X mb 29 [mv, .int .i64 last, .int .i64 mark] ∧ (∀ k, Sw q vk g k → w.heap.size ≤ k ∧ k ≠ mb) ∧ w.heap.size ≤ mb ∧ Turn (fun _ => False) w X
theorem Lp14.still {w X Y : World} {mb i q g : Nat} {qs : List Ac14} {vk mv : Value} {last mark : Int} (h : Lp14 w mb qs i q vk g last mark mv X) (ht : Turn (fun _ => False) X Y) : Lp14 w mb qs i q vk g last mark mv Y := by
  obtain ⟨⟨M, Md, h1⟩, h2, h3, h4, h5⟩ := h
  exact ⟨⟨M, Md, h1.still ht⟩, h2.turn ht (fun h => h), h3, h4, h5.trans ht⟩
theorem Acts14.row {w : World} {A : Option Addr} {n c : Nat} {qs : List Ac14} (h : Acts14 w (.slice A n c) qs) : qs.length = n ∧ ∀ i q, qs[i]? = some q → ∃ b o, A = some ⟨b, o, none⟩ ∧ ∀ X, Turn (fun _ => False) w X → (X.cell? ⟨b, o + i * 3, none⟩ = some (.int .i64 q.k) ∧ X.cell? ⟨b, o + i * 3 + 1, none⟩ = some (.int .i64 q.t) ∧ X.cell? ⟨b, o + i * 3 + 2, none⟩ = some q.v) ∧ Cx X q.v q.L := by
  obtain ⟨A', c', e, hl, hr⟩ := h
  injection e with e1 e2 e3
  subst e1 e2
  refine ⟨rfl, fun i q hi => ?_⟩
  obtain ⟨b, o, rfl, hb, hc⟩ := hr (by have := (List.getElem?_eq_some_iff.1 hi).1; omega)
  obtain ⟨⟨c0, c1, c2⟩, hx, _⟩ := hc i q hi
  refine ⟨b, o, rfl, fun X hX => ⟨⟨?_, ?_, ?_⟩, hx.still hX⟩⟩
  · exact (World.cell?_of_block (w := w) (a := ⟨b, _, none⟩) (hX.block b hb (fun h => h))).trans c0
  · exact (World.cell?_of_block (w := w) (a := ⟨b, _, none⟩) (hX.block b hb (fun h => h))).trans c1
  · exact (World.cell?_of_block (w := w) (a := ⟨b, _, none⟩) (hX.block b hb (fun h => h))).trans c2
set_option maxHeartbeats 8000000 in
theorem spacePlays_of (fa fb : ByteArray) (t most : Int) (A : Option Addr) (n c : Nat) (qs : List Ac14) (w : World) (hA : Acts14 w (.slice A n c) qs) (hz : ∀ q ∈ qs, q.L.length ≤ 140737488351232) (ha : fa.size ≤ 140737488351232) (hb : fb.size ≤ 140737488351232) :
    Calls Try.prog 3 #[.slice A n c, .string fa, .string fb, .int .i64 t, .int .i64 most] w fun r w' => r = .returned (.bool true) ∧ Turn (fun _ => False) w w' := by
  have HF := Lib.hid (few_14 hA hz)
  obtain ⟨hnl, HROW0⟩ := hA.row
  have HROW := Lib.hid HROW0
  have HNL := Lib.hid hnl
  have hn63 : n ≤ 9223372036854775807 := by obtain ⟨_, _, e, hl, _⟩ := hA; injection e with _ e2 _; omega
  clear hA hz HROW0 hnl
  go_enter Try.func3, Try.ntmps3
  go_wp2_with (go_at_call 9; refine HF.out.mono ?_; rintro e w' ⟨b, rfl, hfp, rfl⟩; have FP := Lib.hid hfp; clear hfp)
  · go_wp2_with (go_at_call 10; refine (lives_14 _).mono ?_; rintro e w9 ⟨rfl, t9⟩)
    go_ret
    exact ⟨rfl, t9⟩
  obtain rfl : b = true := by cases b <;> simp_all
  have HCN := Lib.hid (FP.out rfl)
  clear FP
  go_wp2_with (go_at_call 11; refine (new_14 _).mono ?_; rintro e w1 ⟨q, vk, g, rfl, hs, hf, ht⟩; have S1 := Lib.hid hs; have F1 := Lib.hid hf; have T1 := Lib.hid ht; clear hs hf ht)
  obtain ⟨mb, hmb⟩ : ∃ mb, w1.heap.size = mb := ⟨_, rfl⟩
  have L0 : Hid (Lp14 w' mb qs 0 q vk g 0 0 (.slice none 0 0) (w1.alloc (.cells #[.slice none 0 0, .int .i64 0, .int .i64 0] 29))) := Lib.hid (by
    refine ⟨⟨[], [], ⟨S1.out.still ((Turn.refl _ _).alloc _), ix_nil _, rfl, ⟨List.Pairwise.nil, fun x hx => by cases hx⟩, by decide, fun k _ => ⟨fun h => absurd h (by simp), fun p hp => by cases hp⟩, bm_nil _⟩⟩, Blk.new_ _ _ _ hmb, fun k hk => ⟨F1.out k hk, fun e => ?_⟩, by have := T1.out.size; omega, T1.out.alloc _⟩
    have := S1.out.below k hk
    omega)
  clear S1 F1
  rw [hmb]
  clear hmb
  go_loopw [11, 13, 14, 15, 16] (fun v11 v13 _ _ _ wr => ∃ (i q : Nat) (vk : Value) (g : Nat) (last mark : Int) (AM : Option Addr) (lM cM : Nat), i ≤ n ∧ v11 = .pointer (some ⟨q, 0, none⟩) ∧ v13 = .int .i64 i ∧ Lp14 w' mb qs i q vk g last mark (.slice AM lM cM) wr) (fun _ v13 _ _ _ _ => n - (intOf v13).toNat)
  case atStart => exact ⟨0, q, vk, g, 0, 0, none, 0, 0, Nat.zero_le _, rfl, rfl, L0.out⟩
  case round =>
    clear L0 T1 vk g
    obtain ⟨i, q, vk, g, last, mark, AM, lM, cM, hi, rfl, rfl, hlp⟩ := hrel
    obtain ⟨wx, rfl⟩ : ∃ W, W = wr := ⟨_, rfl⟩
    have LP := Lib.hid hlp
    have hbx := hlp.2.1
    have m0 := hbx.cell 0
    have m1 := hbx.cell 1
    have m2 := hbx.cell 2
    simp only [List.getElem?_cons_zero, List.getElem?_cons_succ] at m0 m1 m2
    clear hlp hbx
    by_cases hlt : i < n
    · have hl1 : (i : Int) < (n : Int) := by omega
      have hl0 : (0 : Int) ≤ (i : Int) := by omega
      have hq := wrap_of ((i : Int) + 1) (by omega) (by omega)
      obtain ⟨a, hx⟩ : ∃ x, qs[i]? = some x := ⟨_, List.getElem?_eq_getElem (by rw [HNL.out]; exact hlt)⟩
      have HX := Lib.hid hx
      obtain ⟨b, o, rfl, hcc⟩ := HROW.out i a hx
      obtain ⟨⟨e0, e1, e2⟩, _⟩ := hcc wx LP.out.2.2.2.2
      have HCC := Lib.hid hcc
      have HFW := Lib.hid (HCN.out.2 a (List.mem_of_getElem? hx))
      obtain ⟨ak, ta, av, aL⟩ := a
      obtain ⟨ln, hln⟩ : ∃ k, aL.length = k := ⟨_, rfl⟩
      simp only at e0 e1 e2 HCC
      obtain ⟨LA, lc, e9, _⟩ := (HCC.out wx LP.out.2.2.2.2).2
      rw [hln] at e9
      subst e9
      have HNX : Hid (cn14 (qs.take (i + 1)) = cn14 (qs.take i) + 1 + ln ∧ cn14 (qs.take (i + 1)) ≤ 200) := Lib.hid ⟨by rw [cn14_next HX.out, ← hln], Nat.le_trans (cn14_le _ _) HCN.out.1⟩
      have hmbs : mb < wx.heap.size := LP.out.2.1.lt
      obtain ⟨hsw1, hsw2⟩ : (∀ k, Sw q vk g k → k < wx.heap.size) ∧ True := ⟨by obtain ⟨M, Md, hst⟩ := LP.out.1; exact hst.sp.below, trivial⟩
      have HSTEP : Hid (∀ X, Turn (fun _ => False) wx X → Calls Try.prog 12 #[.pointer (some ⟨q, 0, none⟩), .agg #[.slice AM lM cM, .int .i64 last, .int .i64 mark], .agg #[.int .i64 ak, .int .i64 ta, .slice LA ln lc]] X fun e w9 => ∃ v, e = .returned v ∧ ∃ (q2 : Nat) (vk2 : Value) (g2 : Nat) (la2 mk2 : Int) (A2 : Option Addr) (n2 c2 : Nat), v = .tuple #[.pointer (some ⟨q2, 0, none⟩), .agg #[.slice A2 n2 c2, .int .i64 la2, .int .i64 mk2], .bool true] ∧ (∃ M Md, St14 w9 q2 vk2 g2 M la2 mk2 (.slice A2 n2 c2) Md (cn14 (qs.take (i + 1)))) ∧ (∀ k, Sw q2 vk2 g2 k → Sw q vk g k ∨ X.heap.size ≤ k) ∧ Turn (Sw q vk g) X w9) := Lib.hid (fun X hX => by
        obtain ⟨M, Md, hst⟩ := LP.out.1
        have h200 := HNX.out
        refine (step_14 ak ta aL (hst.still hX) (by omega) (by have := (HCC.out X (LP.out.2.2.2.2.trans hX)).2; exact this) (by omega) HFW.out).mono fun e w9 ⟨v, h1, q2, vk2, g2, M2, la2, mk2, mv2, Md2, h2, h3, h4, h5⟩ => ?_
        obtain ⟨A2, c2, e, _⟩ := id h3.ix
        subst e
        refine ⟨v, h1, q2, vk2, g2, la2, mk2, A2, _, c2, h2, ⟨M2, Md2, ?_⟩, h4, h5⟩
        rw [h200.1, ← hln]
        exact h3)
      have HBX : Hid (∀ X, Turn (Sw q vk g) wx X → X.cell? ⟨mb, 0, none⟩ = some (.slice AM lM cM) ∧ X.cell? ⟨mb, 1, none⟩ = some (.int .i64 last) ∧ X.cell? ⟨mb, 2, none⟩ = some (.int .i64 mark) ∧ X.cell? ⟨b, o + i * 3, none⟩ = some (.int .i64 ak) ∧ X.cell? ⟨b, o + i * 3 + 1, none⟩ = some (.int .i64 ta) ∧ X.cell? ⟨b, o + i * 3 + 2, none⟩ = some (.slice LA ln lc)) := Lib.hid (fun X hX => by
        have h0 : Turn (fun k => w'.heap.size ≤ k) w' X := (LP.out.2.2.2.2.mono (fun k _ h => h.elim)).trans (hX.mono (fun k _ h => (LP.out.2.2.1 k h).1))
        have h1 : Turn (fun _ => False) w' X := h0.mono (fun k hk h => by omega)
        have bm := LP.out.2.1.turn hX (fun h => (LP.out.2.2.1 _ h).2 rfl)
        obtain ⟨⟨d0, d1, d2⟩, _⟩ := HCC.out X h1
        exact ⟨bm.cell 0, bm.cell 1, bm.cell 2, d0, d1, d2⟩)
      clear hx hcc hsw2
      go_wp2_with fail
      -- region A
      have T0 : Hid (Turn (Sw q vk g) wx wx.drew) := Lib.hid (Turn.refl _ _).drew
      refine wp_region_noPanic ?_
      refine wp_region_held_drew (S := (fun X => Turn (Sw q vk g) wx X)) (by kernel_rfl) T0.out (fun hHeld => ?_)
      clear hHeld
      refine wpAnyH_take (i := 0) (v := ?_) rfl (by kernel_rfl) (by kernel_rfl) (by kernel_rfl) (fun _ _ _ h => h) (Or.inl ⟨by rfl, ?_⟩) (by assumption) ?_
      rotate_left 1
      · intro w' hSw
        go_simp
        all_goals first | with_reducible rfl | (rw [if_neg (by omega)]; done) | (rw [if_pos (by omega)]; done) | (rw [if_neg (by omega)]; with_reducible rfl) | (rw [if_pos (by omega)]; with_reducible rfl)
      try simp only [List.getElem_toArray, List.getElem_cons_zero, List.getElem_cons_succ, Act.put, List.setIfInBounds_toArray, List.set_cons_zero, List.set_cons_succ]
      refine wpAnyH_take (i := 1) (v := ?_) rfl (by kernel_rfl) (by kernel_rfl) (by kernel_rfl) (fun _ _ _ h => h) (Or.inl ⟨by rfl, ?_⟩) (by assumption) ?_
      rotate_left 1
      · intro w' hSw
        obtain ⟨y0, y1, y2, y3, y4, y5⟩ := HBX.out _ hSw
        go_simp
        all_goals first | with_reducible rfl | (rw [if_neg (by omega)]; done) | (rw [if_pos (by omega)]; done) | (rw [if_neg (by omega)]; with_reducible rfl) | (rw [if_pos (by omega)]; with_reducible rfl)
      try simp only [List.getElem_toArray, List.getElem_cons_zero, List.getElem_cons_succ, Act.put, List.setIfInBounds_toArray, List.set_cons_zero, List.set_cons_succ]
      refine wpAnyH_take (i := 2) (v := ?_) rfl (by kernel_rfl) (by kernel_rfl) (by kernel_rfl) (fun _ _ _ h => h) (Or.inl ⟨by rfl, ?_⟩) (by assumption) ?_
      rotate_left 1
      · intro w' hSw
        go_simp
        all_goals first | with_reducible rfl | (rw [if_neg (by omega)]; done) | (rw [if_pos (by omega)]; done) | (rw [if_neg (by omega)]; with_reducible rfl) | (rw [if_pos (by omega)]; with_reducible rfl)
      try simp only [List.getElem_toArray, List.getElem_cons_zero, List.getElem_cons_succ, Act.put, List.setIfInBounds_toArray, List.set_cons_zero, List.set_cons_succ]
      refine wpAnyH_take (i := 3) (v := ?_) rfl (by kernel_rfl) (by kernel_rfl) (by kernel_rfl) (fun _ _ _ h => h) (Or.inl ⟨by rfl, ?_⟩) (by assumption) ?_
      rotate_left 1
      · intro w' hSw
        go_simp
        all_goals first | with_reducible rfl | (rw [if_neg (by omega)]; done) | (rw [if_pos (by omega)]; done) | (rw [if_neg (by omega)]; with_reducible rfl) | (rw [if_pos (by omega)]; with_reducible rfl)
      try simp only [List.getElem_toArray, List.getElem_cons_zero, List.getElem_cons_succ, Act.put, List.setIfInBounds_toArray, List.set_cons_zero, List.set_cons_succ]
      refine wpAnyH_take (i := 4) (v := ?_) rfl (by kernel_rfl) (by kernel_rfl) (by kernel_rfl) (fun _ _ _ h => h) (Or.inl ⟨by rfl, ?_⟩) (by assumption) ?_
      rotate_left 1
      · intro w' hSw
        go_simp
        all_goals first | with_reducible rfl | (rw [if_neg (by omega)]; done) | (rw [if_pos (by omega)]; done) | (rw [if_neg (by omega)]; with_reducible rfl) | (rw [if_pos (by omega)]; with_reducible rfl)
      try simp only [List.getElem_toArray, List.getElem_cons_zero, List.getElem_cons_succ, Act.put, List.setIfInBounds_toArray, List.set_cons_zero, List.set_cons_succ]
      refine wpAnyH_take (i := 5) (v := ?_) rfl (by kernel_rfl) (by kernel_rfl) (by kernel_rfl) (fun _ _ _ h => h) (Or.inl ⟨by rfl, ?_⟩) (by assumption) ?_
      rotate_left 1
      · intro w' hSw
        obtain ⟨y0, y1, y2, y3, y4, y5⟩ := HBX.out _ hSw
        go_simp
        all_goals first | with_reducible rfl | (rw [if_neg (by omega)]; done) | (rw [if_pos (by omega)]; done) | (rw [if_neg (by omega)]; with_reducible rfl) | (rw [if_pos (by omega)]; with_reducible rfl)
      try simp only [List.getElem_toArray, List.getElem_cons_zero, List.getElem_cons_succ, Act.put, List.setIfInBounds_toArray, List.set_cons_zero, List.set_cons_succ]
      refine wpAnyH_ready (rs := [6, 11]) (by kernel_rfl) (by simp) ?_
      refine AllReadyH.cons rfl (fun K hK => ?_) (AllReadyH.cons rfl (fun K hK => ?_) AllReadyH.nil)
      · refine step_call rfl 12 Try.f12 _ _ rfl Try.func12 (by kernel_rfl) (by kernel_rfl) _ _ (HSTEP.out _ (Turn.refl _ _).drew) (by go_simp) ?_
        rintro v8 w8 ⟨q2, vk2, g2, la2, mk2, A2, n2, c2, rfl, hst8, hsw8, ht8⟩
        have ST8 := Lib.hid hst8
        have T8 : Hid (Turn (Sw q vk g) wx w8) := Lib.hid (((Turn.refl _ _).drew).trans ht8)
        have F8 : Hid (∀ k, Sw q2 vk2 g2 k → Sw q vk g k ∨ wx.heap.size ≤ k) := Lib.hid hsw8
        clear hst8 hsw8 ht8
        refine hK.out _ _ T8.out (fun hHeld => ?_)
        clear hHeld hK K
        try simp only [List.getElem_toArray, List.getElem_cons_zero, List.getElem_cons_succ, Act.put, List.setIfInBounds_toArray, List.set_cons_zero, List.set_cons_succ]
        refine wpAnyH_take (i := 7) (v := ?_) rfl (by kernel_rfl) (by kernel_rfl) (by kernel_rfl) (fun _ _ _ h => h) (Or.inl ⟨by rfl, ?_⟩) (by assumption) ?_
        rotate_left 1
        · intro w' hSw
          go_simp
          all_goals first | with_reducible rfl | (rw [if_neg (by omega)]; done) | (rw [if_pos (by omega)]; done) | (rw [if_neg (by omega)]; with_reducible rfl) | (rw [if_pos (by omega)]; with_reducible rfl)
        try simp only [List.getElem_toArray, List.getElem_cons_zero, List.getElem_cons_succ, Act.put, List.setIfInBounds_toArray, List.set_cons_zero, List.set_cons_succ]
        refine wpAnyH_take (i := 8) (v := ?_) rfl (by kernel_rfl) (by kernel_rfl) (by kernel_rfl) (fun _ _ _ h => h) (Or.inl ⟨by rfl, ?_⟩) (by assumption) ?_
        rotate_left 1
        · intro w' hSw
          go_simp
          all_goals first | with_reducible rfl | (rw [if_neg (by omega)]; done) | (rw [if_pos (by omega)]; done) | (rw [if_neg (by omega)]; with_reducible rfl) | (rw [if_pos (by omega)]; with_reducible rfl)
        try simp only [List.getElem_toArray, List.getElem_cons_zero, List.getElem_cons_succ, Act.put, List.setIfInBounds_toArray, List.set_cons_zero, List.set_cons_succ]
        refine wpAnyH_take (i := 9) (v := ?_) rfl (by kernel_rfl) (by kernel_rfl) (by kernel_rfl) (fun _ _ _ h => h) (Or.inl ⟨by rfl, ?_⟩) (by assumption) ?_
        rotate_left 1
        · intro w' hSw
          go_simp
          all_goals first | with_reducible rfl | (rw [if_neg (by omega)]; done) | (rw [if_pos (by omega)]; done) | (rw [if_neg (by omega)]; with_reducible rfl) | (rw [if_pos (by omega)]; with_reducible rfl)
        try simp only [List.getElem_toArray, List.getElem_cons_zero, List.getElem_cons_succ, Act.put, List.setIfInBounds_toArray, List.set_cons_zero, List.set_cons_succ]
        refine wpAnyH_take (i := 10) (v := ?_) rfl (by kernel_rfl) (by kernel_rfl) (by kernel_rfl) (fun _ _ _ h => h) (Or.inl ⟨by rfl, ?_⟩) (by assumption) ?_
        rotate_left 1
        · intro w' hSw
          go_simp
          all_goals first | with_reducible rfl | (rw [if_neg (by omega)]; done) | (rw [if_pos (by omega)]; done) | (rw [if_neg (by omega)]; with_reducible rfl) | (rw [if_pos (by omega)]; with_reducible rfl)
        try simp only [List.getElem_toArray, List.getElem_cons_zero, List.getElem_cons_succ, Act.put, List.setIfInBounds_toArray, List.set_cons_zero, List.set_cons_succ]
        refine wpAnyH_ready (rs := [11]) (by kernel_rfl) (by simp) ?_
        refine AllReadyH.cons rfl (fun K hK => ?_) AllReadyH.nil
        go_simp
        obtain ⟨bx, hbx⟩ : ∃ bx, w8.heap.size = bx := ⟨_, rfl⟩
        have HBXS : Hid (wx.heap.size ≤ bx) := Lib.hid (by have := T8.out.size; omega)
        have NB : Hid (∀ k, Sw q2 vk2 g2 k → k ≠ bx) := Lib.hid (fun k hk e => by
          obtain ⟨M, Md, hst⟩ := ST8.out
          have := hst.sp.below k hk
          omega)
        obtain ⟨W8, hW8⟩ : ∃ W, w8.alloc (.cells #[.slice none 0 0, .int .i64 0, .int .i64 0] 29) = W := ⟨_, rfl⟩
        have BB : Hid (Blk W8 bx 29 [.slice none 0 0, .int .i64 0, .int .i64 0]) := Lib.hid (hW8 ▸ Blk.new_ _ _ _ hbx)
        have T8' : Hid (Turn (Sw q vk g) wx W8) := Lib.hid (hW8 ▸ T8.out.alloc _)
        have ST8' : Hid (∃ M Md, St14 W8 q2 vk2 g2 M la2 mk2 (.slice A2 n2 c2) Md (cn14 (qs.take (i + 1)))) := Lib.hid (by
          obtain ⟨M, Md, hst⟩ := ST8.out
          exact ⟨M, Md, hW8 ▸ hst.still ((Turn.refl _ _).alloc _)⟩)
        clear T8 ST8
        have T8 := T8'
        have ST8 := ST8'
        clear T8' ST8'
        rw [hbx, hW8]
        clear hbx hW8 w8
        obtain ⟨w8, rfl⟩ : ∃ W, W = W8 := ⟨_, rfl⟩
        refine hK.out _ _ T8.out (fun hHeld => ?_)
        clear hHeld hK K
        try simp only [List.getElem_toArray, List.getElem_cons_zero, List.getElem_cons_succ, Act.put, List.setIfInBounds_toArray, List.set_cons_zero, List.set_cons_succ]
        refine wpAnyH_take (i := 12) (v := ?_) rfl (by kernel_rfl) (by kernel_rfl) (by kernel_rfl) (fun _ _ _ h => h) (Or.inl ⟨by rfl, ?_⟩) (by assumption) ?_
        rotate_left 1
        · intro w' hSw
          go_simp
          all_goals first | with_reducible rfl | (rw [if_neg (by omega)]; done) | (rw [if_pos (by omega)]; done) | (rw [if_neg (by omega)]; with_reducible rfl) | (rw [if_pos (by omega)]; with_reducible rfl)
        try simp only [List.getElem_toArray, List.getElem_cons_zero, List.getElem_cons_succ, Act.put, List.setIfInBounds_toArray, List.set_cons_zero, List.set_cons_succ]
        refine wpAnyH_ready (rs := [13]) (by kernel_rfl) (by simp) ?_
        refine AllReadyH.cons rfl (fun K hK => ?_) AllReadyH.nil
        obtain ⟨r0, r1, r2, r3, r4, r5⟩ := cells3 BB.out
        have HF := Lib.hid (box3 BB.out (.slice A2 n2 c2) (.int .i64 la2) (.int .i64 mk2))
        go_simp
        have TS9 := Lib.hid (T8.out.trans_new HF.out.2.1 (fun k hk e => by have := HBXS.out; omega))
        refine hK.out _ _ TS9.out (fun hHeld => ?_)
        clear hHeld hK K
        try simp only [List.getElem_toArray, List.getElem_cons_zero, List.getElem_cons_succ, Act.put, List.setIfInBounds_toArray, List.set_cons_zero, List.set_cons_succ]
        refine wpAnyH_take (i := 14) (v := ?_) rfl (by kernel_rfl) (by kernel_rfl) (by kernel_rfl) (fun _ _ _ h => h) (Or.inl ⟨by rfl, ?_⟩) (by assumption) ?_
        rotate_left 1
        · intro w' hSw
          go_simp
          all_goals first | with_reducible rfl | (rw [if_neg (by omega)]; done) | (rw [if_pos (by omega)]; done) | (rw [if_neg (by omega)]; with_reducible rfl) | (rw [if_pos (by omega)]; with_reducible rfl)
        try simp only [List.getElem_toArray, List.getElem_cons_zero, List.getElem_cons_succ, Act.put, List.setIfInBounds_toArray, List.set_cons_zero, List.set_cons_succ]
        refine wpAnyH_done (by kernel_rfl) ?_ _
        refine NoPanic.normal ?_
        obtain ⟨CZ, TS, k0, k1, k2⟩ := HF.out
        obtain ⟨W9, hW9⟩ : ∃ W, ((w8.setCell ⟨bx, 0, none⟩ (.slice A2 n2 c2)).setCell ⟨bx, 1, none⟩ (.int .i64 la2)).setCell ⟨bx, 2, none⟩ (.int .i64 mk2) = W := ⟨_, rfl⟩
        rw [hW9] at CZ TS k0 k1 k2 ⊢
        have B9 := Lib.hid CZ
        have T9 : Hid (Turn (Sw q vk g) wx W9) := Lib.hid (T8.out.trans_new TS (fun k hk e => by have := HBXS.out; omega))
        have ST9 : Hid (∃ M Md, St14 W9 q2 vk2 g2 M la2 mk2 (.slice A2 n2 c2) Md (cn14 (qs.take (i + 1)))) := Lib.hid (by
          obtain ⟨M, Md, hst⟩ := ST8.out
          exact ⟨M, Md, hst.box BB.out (by simp) NB.out TS⟩)
        have HAL : Hid (∀ X, Turn (fun _ => False) W9 X → Calls Try.prog 13 #[.pointer (some ⟨q2, 0, none⟩), .agg #[.slice A2 n2 c2, .int .i64 la2, .int .i64 mk2]] X fun e w9 => e = .returned (.bool true) ∧ Turn (fun _ => False) X w9) := Lib.hid (fun X hX => by
          obtain ⟨M, Md, hst⟩ := ST9.out
          exact alike_14 (hst.still hX) (by have := HNX.out; omega))
        have HAS : Hid (∀ X, Turn (fun _ => False) W9 X → Calls Try.prog 14 #[.pointer (some ⟨q2, 0, none⟩), .agg #[.slice A2 n2 c2, .int .i64 la2, .int .i64 mk2], .string fa, .string fa, .string fb, .int .i64 t, .int .i64 most] X fun e w9 => e = .returned (.bool true) ∧ Turn (fun _ => False) X w9) := Lib.hid (fun X hX => by
          obtain ⟨M, Md, hst⟩ := ST9.out
          exact asked_14 fa fa fb t most (hst.still hX) (by have := HNX.out; omega) ha ha hb)
        have HB9 : Hid (∀ X, Turn (fun _ => False) W9 X → X.cell? ⟨bx, 0, none⟩ = some (.slice A2 n2 c2) ∧ X.cell? ⟨bx, 1, none⟩ = some (.int .i64 la2) ∧ X.cell? ⟨bx, 2, none⟩ = some (.int .i64 mk2)) := Lib.hid (fun X hX => by
          have b := B9.out.turn hX (fun h => h)
          exact ⟨b.cell 0, b.cell 1, b.cell 2⟩)
        clear CZ TS hW9 HF BB TS9 e0 e1 e2 m0 m1 m2
        go_wp2_with (first
          | (go_at_call 13; refine (HAL.out _ (Turn.refl _ _)).mono ?_; rintro e w10 ⟨rfl, t10⟩; have T10 := Lib.hid t10; clear t10 k0 k1 k2; obtain ⟨k0, k1, k2⟩ := HB9.out w10 T10.out)
          | (go_at_call 14; refine (HAS.out _ T10.out).mono ?_; rintro e w11 ⟨rfl, t11⟩; have T11' := Lib.hid (T10.out.trans t11); clear t11 k0 k1 k2))
        have BM : Hid (Blk w11 mb 29 [.slice AM lM cM, .int .i64 last, .int .i64 mark]) := Lib.hid ((LP.out.2.1.turn T9.out (fun h => (LP.out.2.2.1 _ h).2 rfl)).turn T11'.out (fun h => h))
        have HBM : Hid (∀ X, Turn (fun k => k = mb) w11 X → X.cell? ⟨bx, 0, none⟩ = some (.slice A2 n2 c2) ∧ X.cell? ⟨bx, 1, none⟩ = some (.int .i64 la2) ∧ X.cell? ⟨bx, 2, none⟩ = some (.int .i64 mk2)) := Lib.hid (fun X hX => by
          have b := (B9.out.turn T11'.out (fun h => h)).turn hX (fun e => by have := HBXS.out; omega)
          exact ⟨b.cell 0, b.cell 1, b.cell 2⟩)
        have HEND : Hid (∀ Y, Turn (fun k => k = mb) w11 Y → Blk Y mb 29 [.slice A2 n2 c2, .int .i64 la2, .int .i64 mk2] → Lp14 w' mb qs (i + 1) q2 vk2 g2 la2 mk2 (.slice A2 n2 c2) Y) := Lib.hid (fun Y hY hB => by
          have hF : ∀ k, Sw q2 vk2 g2 k → w'.heap.size ≤ k ∧ k ≠ mb := fun k hk => by
            rcases F8.out k hk with h | h
            · exact LP.out.2.2.1 k h
            · have := LP.out.2.2.2.2.size
              exact ⟨by omega, by omega⟩
          refine ⟨?_, hB, hF, LP.out.2.2.2.1, ?_⟩
          · obtain ⟨M, Md, hst⟩ := ST9.out
            exact ⟨M, Md, (hst.still T11'.out).box BM.out (by simp) (fun k hk => (hF k hk).2) hY⟩
          · have h0 : Turn (fun k => w'.heap.size ≤ k) w' Y := (((LP.out.2.2.2.2.mono (fun k _ h => h.elim)).trans (T9.out.mono (fun k _ h => (LP.out.2.2.1 k h).1))).trans (T11'.out.mono (fun k _ h => h.elim))).trans (hY.mono (fun k _ e => by have := LP.out.2.2.2.1; omega))
            exact h0.mono (fun k hk h => by omega))
        clear HSTEP HBX T8 F8 NB ST8 HAL HAS
        have T0 : Hid (Turn (fun k => k = mb) w11 w11.drew) := Lib.hid (Turn.refl _ _).drew
        refine wp_region_noPanic ?_
        refine wp_region_held_drew (S := (fun X => Turn (fun k => k = mb) w11 X)) (by kernel_rfl) T0.out (fun hHeld => ?_)
        clear hHeld
        refine wpAnyH_take (i := 0) (v := ?_) rfl (by kernel_rfl) (by kernel_rfl) (by kernel_rfl) (fun _ _ _ h => h) (Or.inl ⟨by rfl, ?_⟩) (by assumption) ?_
        rotate_left 1
        · intro w' hSw
          go_simp
          all_goals first | with_reducible rfl | (rw [if_neg (by omega)]; done) | (rw [if_pos (by omega)]; done) | (rw [if_neg (by omega)]; with_reducible rfl) | (rw [if_pos (by omega)]; with_reducible rfl)
        try simp only [List.getElem_toArray, List.getElem_cons_zero, List.getElem_cons_succ, Act.put, List.setIfInBounds_toArray, List.set_cons_zero, List.set_cons_succ]
        refine wpAnyH_take (i := 1) (v := ?_) rfl (by kernel_rfl) (by kernel_rfl) (by kernel_rfl) (fun _ _ _ h => h) (Or.inl ⟨by rfl, ?_⟩) (by assumption) ?_
        rotate_left 1
        · intro w' hSw
          obtain ⟨y0, y1, y2⟩ := HBM.out _ hSw
          go_simp
          all_goals first | with_reducible rfl | (rw [if_neg (by omega)]; done) | (rw [if_pos (by omega)]; done) | (rw [if_neg (by omega)]; with_reducible rfl) | (rw [if_pos (by omega)]; with_reducible rfl)
        try simp only [List.getElem_toArray, List.getElem_cons_zero, List.getElem_cons_succ, Act.put, List.setIfInBounds_toArray, List.set_cons_zero, List.set_cons_succ]
        refine wpAnyH_take (i := 2) (v := ?_) rfl (by kernel_rfl) (by kernel_rfl) (by kernel_rfl) (fun _ _ _ h => h) (Or.inl ⟨by rfl, ?_⟩) (by assumption) ?_
        rotate_left 1
        · intro w' hSw
          go_simp
          all_goals first | with_reducible rfl | (rw [if_neg (by omega)]; done) | (rw [if_pos (by omega)]; done) | (rw [if_neg (by omega)]; with_reducible rfl) | (rw [if_pos (by omega)]; with_reducible rfl)
        try simp only [List.getElem_toArray, List.getElem_cons_zero, List.getElem_cons_succ, Act.put, List.setIfInBounds_toArray, List.set_cons_zero, List.set_cons_succ]
        refine wpAnyH_ready (rs := [3]) (by kernel_rfl) (by simp) ?_
        refine AllReadyH.cons rfl (fun K hK => ?_) AllReadyH.nil
        obtain ⟨r0, r1, r2, r3, r4, r5⟩ := cells3 BM.out
        have HG := Lib.hid (box3 BM.out (.slice A2 n2 c2) (.int .i64 la2) (.int .i64 mk2))
        go_simp
        have TG : Hid (Turn (fun k => k = mb) w11 _) := Lib.hid (HG.out.2.1).drew
        refine hK.out _ _ TG.out (fun hHeld => ?_)
        clear hHeld hK K
        try simp only [List.getElem_toArray, List.getElem_cons_zero, List.getElem_cons_succ, Act.put, List.setIfInBounds_toArray, List.set_cons_zero, List.set_cons_succ]
        refine wpAnyH_done (by kernel_rfl) ?_ _
        refine NoPanic.normal ?_
        go_wp2_with fail
        go_roundw
        case rel => exact ⟨i + 1, q2, vk2, g2, la2, mk2, A2, n2, c2, by omega, rfl, by simp [hq], HEND.out _ TG.out HG.out.1⟩
        case measure => simp [intOf, hq]; omega
      · go_simp
        have T11F : Hid (Turn (fun _ => False) wx (wx.drew.alloc (.cells #[.slice none 0 0, .int .i64 0, .int .i64 0] 29))) := Lib.hid ((Turn.refl _ _).drew.alloc _)
        have T11 : Hid (Turn (Sw q vk g) wx (wx.drew.alloc (.cells #[.slice none 0 0, .int .i64 0, .int .i64 0] 29))) := Lib.hid (T11F.out.mono (fun k _ h => h.elim))
        refine hK.out _ _ T11.out (fun hHeld => ?_)
        clear hHeld hK K
        try simp only [List.getElem_toArray, List.getElem_cons_zero, List.getElem_cons_succ, Act.put, List.setIfInBounds_toArray, List.set_cons_zero, List.set_cons_succ]
        refine wpAnyH_ready (rs := [6]) (by kernel_rfl) (by simp) ?_
        refine AllReadyH.cons rfl (fun K hK => ?_) AllReadyH.nil
        refine step_call rfl 12 Try.f12 _ _ rfl Try.func12 (by kernel_rfl) (by kernel_rfl) _ _ (HSTEP.out _ T11F.out) (by go_simp) ?_
        rintro v8 w8 ⟨q2, vk2, g2, la2, mk2, A2, n2, c2, rfl, hst8, hsw8, ht8⟩
        have ST8 := Lib.hid hst8
        have T8 : Hid (Turn (Sw q vk g) wx w8) := Lib.hid ((T11F.out.mono (fun k _ h => h.elim)).trans ht8)
        have F8 : Hid (∀ k, Sw q2 vk2 g2 k → Sw q vk g k ∨ wx.heap.size ≤ k) := Lib.hid (fun k hk => (hsw8 k hk).imp id (fun h => Nat.le_trans T11F.out.size h))
        obtain ⟨bx, hbx⟩ : ∃ bx, wx.heap.size = bx := ⟨_, rfl⟩
        have HBXS : Hid (wx.heap.size ≤ bx) := Lib.hid (by omega)
        have BB : Hid (Blk w8 bx 29 [.slice none 0 0, .int .i64 0, .int .i64 0]) := Lib.hid ((Blk.new_ wx.drew 29 [.slice none 0 0, .int .i64 0, .int .i64 0] hbx).turn ht8 (fun h => by have := hsw1 _ h; omega))
        have NB : Hid (∀ k, Sw q2 vk2 g2 k → k ≠ bx) := Lib.hid (fun k hk e => by
          rcases hsw8 k hk with h | h
          · have := hsw1 _ h; omega
          · have h7 : wx.heap.size + 1 ≤ k := Nat.le_trans (Nat.le_of_eq (World.size_alloc wx.drew (.cells #[.slice none 0 0, .int .i64 0, .int .i64 0] 29)).symm) h
            omega)
        rw [hbx]
        clear hst8 hsw8 ht8 hbx
        refine hK.out _ _ T8.out (fun hHeld => ?_)
        clear hHeld hK K
        try simp only [List.getElem_toArray, List.getElem_cons_zero, List.getElem_cons_succ, Act.put, List.setIfInBounds_toArray, List.set_cons_zero, List.set_cons_succ]
        refine wpAnyH_take (i := 7) (v := ?_) rfl (by kernel_rfl) (by kernel_rfl) (by kernel_rfl) (fun _ _ _ h => h) (Or.inl ⟨by rfl, ?_⟩) (by assumption) ?_
        rotate_left 1
        · intro w' hSw
          go_simp
          all_goals first | with_reducible rfl | (rw [if_neg (by omega)]; done) | (rw [if_pos (by omega)]; done) | (rw [if_neg (by omega)]; with_reducible rfl) | (rw [if_pos (by omega)]; with_reducible rfl)
        try simp only [List.getElem_toArray, List.getElem_cons_zero, List.getElem_cons_succ, Act.put, List.setIfInBounds_toArray, List.set_cons_zero, List.set_cons_succ]
        refine wpAnyH_take (i := 8) (v := ?_) rfl (by kernel_rfl) (by kernel_rfl) (by kernel_rfl) (fun _ _ _ h => h) (Or.inl ⟨by rfl, ?_⟩) (by assumption) ?_
        rotate_left 1
        · intro w' hSw
          go_simp
          all_goals first | with_reducible rfl | (rw [if_neg (by omega)]; done) | (rw [if_pos (by omega)]; done) | (rw [if_neg (by omega)]; with_reducible rfl) | (rw [if_pos (by omega)]; with_reducible rfl)
        try simp only [List.getElem_toArray, List.getElem_cons_zero, List.getElem_cons_succ, Act.put, List.setIfInBounds_toArray, List.set_cons_zero, List.set_cons_succ]
        refine wpAnyH_take (i := 9) (v := ?_) rfl (by kernel_rfl) (by kernel_rfl) (by kernel_rfl) (fun _ _ _ h => h) (Or.inl ⟨by rfl, ?_⟩) (by assumption) ?_
        rotate_left 1
        · intro w' hSw
          go_simp
          all_goals first | with_reducible rfl | (rw [if_neg (by omega)]; done) | (rw [if_pos (by omega)]; done) | (rw [if_neg (by omega)]; with_reducible rfl) | (rw [if_pos (by omega)]; with_reducible rfl)
        try simp only [List.getElem_toArray, List.getElem_cons_zero, List.getElem_cons_succ, Act.put, List.setIfInBounds_toArray, List.set_cons_zero, List.set_cons_succ]
        refine wpAnyH_take (i := 10) (v := ?_) rfl (by kernel_rfl) (by kernel_rfl) (by kernel_rfl) (fun _ _ _ h => h) (Or.inl ⟨by rfl, ?_⟩) (by assumption) ?_
        rotate_left 1
        · intro w' hSw
          go_simp
          all_goals first | with_reducible rfl | (rw [if_neg (by omega)]; done) | (rw [if_pos (by omega)]; done) | (rw [if_neg (by omega)]; with_reducible rfl) | (rw [if_pos (by omega)]; with_reducible rfl)
        try simp only [List.getElem_toArray, List.getElem_cons_zero, List.getElem_cons_succ, Act.put, List.setIfInBounds_toArray, List.set_cons_zero, List.set_cons_succ]
        refine wpAnyH_take (i := 12) (v := ?_) rfl (by kernel_rfl) (by kernel_rfl) (by kernel_rfl) (fun _ _ _ h => h) (Or.inl ⟨by rfl, ?_⟩) (by assumption) ?_
        rotate_left 1
        · intro w' hSw
          go_simp
          all_goals first | with_reducible rfl | (rw [if_neg (by omega)]; done) | (rw [if_pos (by omega)]; done) | (rw [if_neg (by omega)]; with_reducible rfl) | (rw [if_pos (by omega)]; with_reducible rfl)
        try simp only [List.getElem_toArray, List.getElem_cons_zero, List.getElem_cons_succ, Act.put, List.setIfInBounds_toArray, List.set_cons_zero, List.set_cons_succ]
        refine wpAnyH_ready (rs := [13]) (by kernel_rfl) (by simp) ?_
        refine AllReadyH.cons rfl (fun K hK => ?_) AllReadyH.nil
        obtain ⟨r0, r1, r2, r3, r4, r5⟩ := cells3 BB.out
        have HF := Lib.hid (box3 BB.out (.slice A2 n2 c2) (.int .i64 la2) (.int .i64 mk2))
        go_simp
        have TS9 := Lib.hid (T8.out.trans_new HF.out.2.1 (fun k hk e => by have := HBXS.out; omega))
        refine hK.out _ _ TS9.out (fun hHeld => ?_)
        clear hHeld hK K
        try simp only [List.getElem_toArray, List.getElem_cons_zero, List.getElem_cons_succ, Act.put, List.setIfInBounds_toArray, List.set_cons_zero, List.set_cons_succ]
        refine wpAnyH_take (i := 14) (v := ?_) rfl (by kernel_rfl) (by kernel_rfl) (by kernel_rfl) (fun _ _ _ h => h) (Or.inl ⟨by rfl, ?_⟩) (by assumption) ?_
        rotate_left 1
        · intro w' hSw
          go_simp
          all_goals first | with_reducible rfl | (rw [if_neg (by omega)]; done) | (rw [if_pos (by omega)]; done) | (rw [if_neg (by omega)]; with_reducible rfl) | (rw [if_pos (by omega)]; with_reducible rfl)
        try simp only [List.getElem_toArray, List.getElem_cons_zero, List.getElem_cons_succ, Act.put, List.setIfInBounds_toArray, List.set_cons_zero, List.set_cons_succ]
        refine wpAnyH_done (by kernel_rfl) ?_ _
        refine NoPanic.normal ?_
        obtain ⟨CZ, TS, k0, k1, k2⟩ := HF.out
        obtain ⟨W9, hW9⟩ : ∃ W, ((w8.setCell ⟨bx, 0, none⟩ (.slice A2 n2 c2)).setCell ⟨bx, 1, none⟩ (.int .i64 la2)).setCell ⟨bx, 2, none⟩ (.int .i64 mk2) = W := ⟨_, rfl⟩
        rw [hW9] at CZ TS k0 k1 k2 ⊢
        have B9 := Lib.hid CZ
        have T9 : Hid (Turn (Sw q vk g) wx W9) := Lib.hid (T8.out.trans_new TS (fun k hk e => by have := HBXS.out; omega))
        have ST9 : Hid (∃ M Md, St14 W9 q2 vk2 g2 M la2 mk2 (.slice A2 n2 c2) Md (cn14 (qs.take (i + 1)))) := Lib.hid (by
          obtain ⟨M, Md, hst⟩ := ST8.out
          exact ⟨M, Md, hst.box BB.out (by simp) NB.out TS⟩)
        have HAL : Hid (∀ X, Turn (fun _ => False) W9 X → Calls Try.prog 13 #[.pointer (some ⟨q2, 0, none⟩), .agg #[.slice A2 n2 c2, .int .i64 la2, .int .i64 mk2]] X fun e w9 => e = .returned (.bool true) ∧ Turn (fun _ => False) X w9) := Lib.hid (fun X hX => by
          obtain ⟨M, Md, hst⟩ := ST9.out
          exact alike_14 (hst.still hX) (by have := HNX.out; omega))
        have HAS : Hid (∀ X, Turn (fun _ => False) W9 X → Calls Try.prog 14 #[.pointer (some ⟨q2, 0, none⟩), .agg #[.slice A2 n2 c2, .int .i64 la2, .int .i64 mk2], .string fa, .string fa, .string fb, .int .i64 t, .int .i64 most] X fun e w9 => e = .returned (.bool true) ∧ Turn (fun _ => False) X w9) := Lib.hid (fun X hX => by
          obtain ⟨M, Md, hst⟩ := ST9.out
          exact asked_14 fa fa fb t most (hst.still hX) (by have := HNX.out; omega) ha ha hb)
        have HB9 : Hid (∀ X, Turn (fun _ => False) W9 X → X.cell? ⟨bx, 0, none⟩ = some (.slice A2 n2 c2) ∧ X.cell? ⟨bx, 1, none⟩ = some (.int .i64 la2) ∧ X.cell? ⟨bx, 2, none⟩ = some (.int .i64 mk2)) := Lib.hid (fun X hX => by
          have b := B9.out.turn hX (fun h => h)
          exact ⟨b.cell 0, b.cell 1, b.cell 2⟩)
        clear CZ TS hW9 HF BB TS9 e0 e1 e2 m0 m1 m2
        go_wp2_with (first
          | (go_at_call 13; refine (HAL.out _ (Turn.refl _ _)).mono ?_; rintro e w10 ⟨rfl, t10⟩; have T10 := Lib.hid t10; clear t10 k0 k1 k2; obtain ⟨k0, k1, k2⟩ := HB9.out w10 T10.out)
          | (go_at_call 14; refine (HAS.out _ T10.out).mono ?_; rintro e w11 ⟨rfl, t11⟩; have T11' := Lib.hid (T10.out.trans t11); clear t11 k0 k1 k2))
        have BM : Hid (Blk w11 mb 29 [.slice AM lM cM, .int .i64 last, .int .i64 mark]) := Lib.hid ((LP.out.2.1.turn T9.out (fun h => (LP.out.2.2.1 _ h).2 rfl)).turn T11'.out (fun h => h))
        have HBM : Hid (∀ X, Turn (fun k => k = mb) w11 X → X.cell? ⟨bx, 0, none⟩ = some (.slice A2 n2 c2) ∧ X.cell? ⟨bx, 1, none⟩ = some (.int .i64 la2) ∧ X.cell? ⟨bx, 2, none⟩ = some (.int .i64 mk2)) := Lib.hid (fun X hX => by
          have b := (B9.out.turn T11'.out (fun h => h)).turn hX (fun e => by have := HBXS.out; omega)
          exact ⟨b.cell 0, b.cell 1, b.cell 2⟩)
        have HEND : Hid (∀ Y, Turn (fun k => k = mb) w11 Y → Blk Y mb 29 [.slice A2 n2 c2, .int .i64 la2, .int .i64 mk2] → Lp14 w' mb qs (i + 1) q2 vk2 g2 la2 mk2 (.slice A2 n2 c2) Y) := Lib.hid (fun Y hY hB => by
          have hF : ∀ k, Sw q2 vk2 g2 k → w'.heap.size ≤ k ∧ k ≠ mb := fun k hk => by
            rcases F8.out k hk with h | h
            · exact LP.out.2.2.1 k h
            · have := LP.out.2.2.2.2.size
              exact ⟨by omega, by omega⟩
          refine ⟨?_, hB, hF, LP.out.2.2.2.1, ?_⟩
          · obtain ⟨M, Md, hst⟩ := ST9.out
            exact ⟨M, Md, (hst.still T11'.out).box BM.out (by simp) (fun k hk => (hF k hk).2) hY⟩
          · have h0 : Turn (fun k => w'.heap.size ≤ k) w' Y := (((LP.out.2.2.2.2.mono (fun k _ h => h.elim)).trans (T9.out.mono (fun k _ h => (LP.out.2.2.1 k h).1))).trans (T11'.out.mono (fun k _ h => h.elim))).trans (hY.mono (fun k _ e => by have := LP.out.2.2.2.1; omega))
            exact h0.mono (fun k hk h => by omega))
        clear HSTEP HBX T8 F8 NB ST8 HAL HAS
        have T0 : Hid (Turn (fun k => k = mb) w11 w11.drew) := Lib.hid (Turn.refl _ _).drew
        refine wp_region_noPanic ?_
        refine wp_region_held_drew (S := (fun X => Turn (fun k => k = mb) w11 X)) (by kernel_rfl) T0.out (fun hHeld => ?_)
        clear hHeld
        refine wpAnyH_take (i := 0) (v := ?_) rfl (by kernel_rfl) (by kernel_rfl) (by kernel_rfl) (fun _ _ _ h => h) (Or.inl ⟨by rfl, ?_⟩) (by assumption) ?_
        rotate_left 1
        · intro w' hSw
          go_simp
          all_goals first | with_reducible rfl | (rw [if_neg (by omega)]; done) | (rw [if_pos (by omega)]; done) | (rw [if_neg (by omega)]; with_reducible rfl) | (rw [if_pos (by omega)]; with_reducible rfl)
        try simp only [List.getElem_toArray, List.getElem_cons_zero, List.getElem_cons_succ, Act.put, List.setIfInBounds_toArray, List.set_cons_zero, List.set_cons_succ]
        refine wpAnyH_take (i := 1) (v := ?_) rfl (by kernel_rfl) (by kernel_rfl) (by kernel_rfl) (fun _ _ _ h => h) (Or.inl ⟨by rfl, ?_⟩) (by assumption) ?_
        rotate_left 1
        · intro w' hSw
          obtain ⟨y0, y1, y2⟩ := HBM.out _ hSw
          go_simp
          all_goals first | with_reducible rfl | (rw [if_neg (by omega)]; done) | (rw [if_pos (by omega)]; done) | (rw [if_neg (by omega)]; with_reducible rfl) | (rw [if_pos (by omega)]; with_reducible rfl)
        try simp only [List.getElem_toArray, List.getElem_cons_zero, List.getElem_cons_succ, Act.put, List.setIfInBounds_toArray, List.set_cons_zero, List.set_cons_succ]
        refine wpAnyH_take (i := 2) (v := ?_) rfl (by kernel_rfl) (by kernel_rfl) (by kernel_rfl) (fun _ _ _ h => h) (Or.inl ⟨by rfl, ?_⟩) (by assumption) ?_
        rotate_left 1
        · intro w' hSw
          go_simp
          all_goals first | with_reducible rfl | (rw [if_neg (by omega)]; done) | (rw [if_pos (by omega)]; done) | (rw [if_neg (by omega)]; with_reducible rfl) | (rw [if_pos (by omega)]; with_reducible rfl)
        try simp only [List.getElem_toArray, List.getElem_cons_zero, List.getElem_cons_succ, Act.put, List.setIfInBounds_toArray, List.set_cons_zero, List.set_cons_succ]
        refine wpAnyH_ready (rs := [3]) (by kernel_rfl) (by simp) ?_
        refine AllReadyH.cons rfl (fun K hK => ?_) AllReadyH.nil
        obtain ⟨r0, r1, r2, r3, r4, r5⟩ := cells3 BM.out
        have HG := Lib.hid (box3 BM.out (.slice A2 n2 c2) (.int .i64 la2) (.int .i64 mk2))
        go_simp
        have TG : Hid (Turn (fun k => k = mb) w11 _) := Lib.hid (HG.out.2.1).drew
        refine hK.out _ _ TG.out (fun hHeld => ?_)
        clear hHeld hK K
        try simp only [List.getElem_toArray, List.getElem_cons_zero, List.getElem_cons_succ, Act.put, List.setIfInBounds_toArray, List.set_cons_zero, List.set_cons_succ]
        refine wpAnyH_done (by kernel_rfl) ?_ _
        refine NoPanic.normal ?_
        go_wp2_with fail
        go_roundw
        case rel => exact ⟨i + 1, q2, vk2, g2, la2, mk2, A2, n2, c2, by omega, rfl, by simp [hq], HEND.out _ TG.out HG.out.1⟩
        case measure => simp [intOf, hq]; omega
      -- region end A
    · obtain rfl : i = n := by omega
      have H9 : Hid (∀ X (key x y : ByteArray) (t most : Int), Turn (fun _ => False) wx X → key.size ≤ 140737488351232 → x.size ≤ 140737488351232 → y.size ≤ 140737488351232 → Calls Try.prog 14 #[.pointer (some ⟨q, 0, none⟩), .agg #[.slice AM lM cM, .int .i64 last, .int .i64 mark], .string key, .string x, .string y, .int .i64 t, .int .i64 most] X fun e w9 => e = .returned (.bool true) ∧ Turn (fun _ => False) X w9) := Lib.hid (fun X key x y t most hX h1 h2 h3 => by
        obtain ⟨M, Md, hst⟩ := LP.out.1
        exact asked_14 key x y t most (hst.still hX) (by have := cn14_le qs i; have := HCN.out.1; omega) h1 h2 h3)
      have HMB : Hid (∀ X, Turn (fun _ => False) wx X → X.cell? ⟨mb, 0, none⟩ = some (.slice AM lM cM) ∧ X.cell? ⟨mb, 1, none⟩ = some (.int .i64 last) ∧ X.cell? ⟨mb, 2, none⟩ = some (.int .i64 mark)) := Lib.hid (fun X hX => by
        have bm := LP.out.2.1.turn hX (fun h => h)
        exact ⟨bm.cell 0, bm.cell 1, bm.cell 2⟩)
      go_wp2_with (first
        | (go_at_call 14; refine (H9.out _ _ _ _ _ _ T5.out ha (Nat.zero_le _) (Nat.zero_le _)).mono ?_; rintro e w6 ⟨rfl, t6⟩; have T6 := Lib.hid t6; clear t6)
        | (go_at_call 14; refine (H9.out _ _ _ _ _ _ (Turn.refl _ _) hb ha hb).mono ?_; rintro e w5 ⟨rfl, t5⟩; have T5 := Lib.hid t5; clear t5 m0 m1 m2; obtain ⟨m0, m1, m2⟩ := HMB.out w5 T5.out)
        | (go_at_call 10; refine (lives_14 _).mono ?_; rintro e w9 ⟨rfl, t9⟩))
      go_ret
      exact ⟨rfl, ((LP.out.2.2.2.2.trans T5.out).trans T6.out).trans t9⟩
theorem spacePlays_walk (v : Value) (qs : List Ac14) (fa fb : ByteArray) (t most : Int) (w : World) (hA : Acts14 w v qs) (hz : ∀ q ∈ qs, q.L.length ≤ 140737488351232) (ha : fa.size ≤ 140737488351232) (hb : fb.size ≤ 140737488351232) (h3 : (Lit.int .i64 t).wf = true) (h4 : (Lit.int .i64 most).wf = true) :
    Calls Try.prog 3 #[v, .string fa, .string fb, .int .i64 t, .int .i64 most] w fun r w' => r = .returned (.bool true) ∧ Below w.heap.size w w' := by
  obtain ⟨A, c, rfl, _⟩ := id hA
  exact (spacePlays_of fa fb t most A _ c qs w hA hz ha hb).mono fun e w' ⟨he, ht⟩ => ⟨he, ht.below (Nat.le_refl _) (fun _ h => h.elim)⟩
end Go.Proofs.Ytgoiajbledkadaa
