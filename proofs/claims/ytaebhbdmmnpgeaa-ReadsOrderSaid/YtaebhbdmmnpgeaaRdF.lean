/- Layer 16: copies of reads. -/
import Derived.Test.YtaebhbdmmnpgeaaRdE
import Derived.Test.YtaebhbdmmnpgeaaShelf
namespace Go.Proofs.Ytaebhbdmmnpgeaa
open Go.RowKit Go.Shelf
set_option linter.unusedVariables false
set_option linter.unusedSimpArgs false
set_option maxRecDepth 100000
attribute [local go_sem] Oper.semAt_some

theorem info_sp16 : (Try.prog.info? 73).map (fun i => (i.zero, i.size, i.bytes)) = some (some (.agg #[.string ByteArray.empty, .string ByteArray.empty]), 2, 32) := by kernel_rfl
/-- Spans that lie behind a mark. -/
def Fw16 (B : Nat) (S : List Pq2) (A : Option Addr) : Prop := 0 < S.length → ∀ a, A = some a → B ≤ a.block
theorem px_of16 {w : World} {A : Option Addr} {c : Nat} {S : List Pq2} (h : Rc w A (S.flatMap pc2)) (hl : S.length ≤ 9223372036854775807) : Px w (.slice A S.length c) S := ⟨A, c, rfl, hl, h⟩
theorem cloneS_16 (S : List Pq2) (A : Option Addr) (n c : Nat) (w : World) (h : Px w (.slice A n c) S) (hb : n ≤ 1000000) :
    Calls Try.prog 122 #[.slice A n c] w fun e w' => ∃ A' c', e = .returned (.slice A' n c') ∧ Px w' (.slice A' n c') S ∧ (Fw16 w.heap.size S A' ∧ n ≤ c') ∧ Turn (fun _ => False) w w' := by
  have HN : Hid (S.length = n) := Lib.hid (by obtain ⟨_, _, e, _⟩ := id h; injection e with _ e _; exact e.symm)
  have HRC : Hid (Rc w A (S.flatMap pc2)) := Lib.hid (by obtain ⟨_, _, e, _, h2⟩ := id h; injection e with e1 _ _; rw [e1]; exact h2)
  have q22 : ∀ (w : World) (a : Option Addr) (n c n' c' : Nat), (binOp .eql 58 (.slice a n c) (.slice none n' c')).run Try.prog w = .ok (.bool a.isNone) w := fun w a n c n' c' => Lib.run_eql_slice_nil w _ _ a n c n' c' Try.underlying58
  cases A with
  | none =>
    have h0 : n = 0 := by
      rcases Nat.eq_zero_or_pos n with h0 | h0
      · exact h0
      · obtain ⟨b, o, e, _⟩ := HRC.out (by rw [flat_len pc2_len, HN.out]; omega)
        cases e
    subst h0
    have hL : S = [] := List.eq_nil_of_length_eq_zero HN.out
    subst hL
    clear h
    go_enter Try.func122, Try.ntmps122
    go_wp2_with fail
    go_ret
    exact ⟨_, _, rfl, ⟨none, 0, rfl, by simp, fun h => by simp at h⟩, ⟨fun h => by simp at h, Nat.le_refl _⟩, Turn.refl _ _⟩
  | some ad =>
    have HRC2 : Hid (Rc (w.alloc (.cells #[] 73)) (some ad) (S.flatMap pc2)) := Lib.hid (HRC.out.still ((Turn.refl _ _).alloc _))
    clear h
    go_enter Try.func122, Try.ntmps122
    go_wp2_with (at_builtin; refine wpList_app_bare rfl _ _ 58 rfl 73 _ 2 32 Try.underlying58 info_sp16 rfl (by decide) _ rfl (some ad) n c (S.flatMap pc2) rfl (by rw [flat_len pc2_len, HN.out]) HRC2.out (pc2_one _) (by unfold maxLen; omega) (by omega) ?_; intro A9 c9 w9 hr9 hc9 ht9; have R9 := Lib.hid hr9; have C9 := Lib.hid hc9; have T9 := Lib.hid ht9; clear hr9 hc9 ht9)
    go_ret
    refine ⟨_, _, rfl, ?_, ⟨fun h a e => Nat.le_trans (by simp) (C9.out.2 (by rw [← HN.out]; exact h) a e), C9.out.1⟩, ((Turn.refl _ _).alloc _).trans T9.out⟩
    have h9 := px_of16 (c := c9) R9.out (by rw [HN.out]; omega)
    rw [HN.out] at h9
    exact h9
theorem cloneK_16 (K : List ByteArray) (A : Option Addr) (n c : Nat) (w : World) (h : Kx w (.slice A n c) K) (hb : n ≤ 1000000) :
    Calls Try.prog 82 #[.slice A n c] w fun e w' => ∃ v', e = .returned v' ∧ w'.ownsRow w.heap.size 9 1 v' n (K.map Value.string) ∧ Turn (fun _ => False) w w' := by
  have hn : K.length = n := by obtain ⟨_, _, e, _⟩ := id h; injection e with _ e _; exact e.symm
  obtain ⟨A', c', e, _, hr⟩ := h
  injection e with e1 _ e3
  subst e1 e3
  cases A with
  | none =>
    have h0 : n = 0 := by
      rcases Nat.eq_zero_or_pos n with h0 | h0
      · exact h0
      · obtain ⟨b, o, e, _⟩ := hr (by rw [List.length_map, hn]; omega)
        cases e
    subst h0
    obtain rfl : K = [] := List.eq_nil_of_length_eq_zero hn
    refine (Try.slices_Clone_string_nil 0 c w).mono ?_
    rintro e w' ⟨rfl, rfl⟩
    exact ⟨_, rfl, World.ownsRow_nil _ _ _ _, Turn.refl _ _⟩
  | some ad =>
    rcases Nat.eq_zero_or_pos n with h0 | h0
    · subst h0
      obtain rfl : K = [] := List.eq_nil_of_length_eq_zero hn
      refine (Try.slices_Clone_string_zero ad c w).mono ?_
      rintro e w' ⟨v', rfl, ho, _, hbl⟩
      exact ⟨_, rfl, ho, Turn.of_below hbl (fun k h1 h2 => by omega)⟩
    · obtain ⟨b, o, e, _, hc⟩ := hr (by rw [List.length_map, hn]; omega)
      injection e with e
      subst e
      refine (Try.slices_Clone_string b o n c K w (by omega) (by omega) (fun j hj => ?_)).mono ?_
      · exact hc j _ (by rw [List.getElem?_map, List.getElem?_eq_getElem hj, List.getD_eq_getElem?_getD, List.getElem?_eq_getElem hj]; rfl)
      · rintro e w' ⟨v', rfl, ho, _, hbl⟩
        rw [List.take_of_length_le (by omega)] at ho
        exact ⟨_, rfl, ho, Turn.of_below hbl (fun k h1 h2 => by omega)⟩
/-- Spans stay, wherever else is written. -/
theorem Px.off16 {w X : World} {A : Option Addr} {n c g : Nat} {S : List Pq2} (h : Px w (.slice A n c) S) (hne : 0 < S.length → ∀ a, A = some a → a.block ≠ g) (ht : Turn (fun k => k = g) w X) : Px X (.slice A n c) S := by
  obtain ⟨A', c', e, hl, hr⟩ := h
  injection e with e1 e2 e3
  subst e1 e2 e3
  refine ⟨A, c, rfl, hl, fun hp => ?_⟩
  obtain ⟨b, o, rfl, hb, hc⟩ := hr hp
  have hS : 0 < S.length := by
    rcases Nat.eq_zero_or_pos S.length with h0 | h0
    · rw [List.eq_nil_of_length_eq_zero h0] at hp; simp at hp
    · exact h0
  refine ⟨b, o, rfl, Nat.lt_of_lt_of_le hb ht.size, fun j u hj => ?_⟩
  rw [World.cell?_of_block (w := w) (a := ⟨b, o + j, none⟩) (ht.block b hb (hne hS _ rfl))]
  exact hc j u hj
theorem put2_16 {W : World} {q t : Nat} {u0 u1 : Value} (h : Blk W q t [u0, u1]) (x0 x1 : Value) : Blk ((W.setCell ⟨q, 0, none⟩ x0).setCell ⟨q, 1, none⟩ x1) q t [x0, x1] ∧ Turn (fun k => k = q) W ((W.setCell ⟨q, 0, none⟩ x0).setCell ⟨q, 1, none⟩ x1) := by
  refine ⟨(h.put 0 x0).put 1 x1, ?_⟩
  exact ((Turn.refl (fun k => k = q) W).setCell (p := ⟨q, 0, none⟩) (.inl rfl) x0).setCell (p := ⟨q, 1, none⟩) (.inl rfl) x1
theorem own_tn16 {w w' : World} {base e size n : Nat} {v : Value} {xs : List Value} {S : Nat → Prop} (h : w.ownsRow base e size v n xs) (ht : Turn S w w') (hne : ∀ k, v.ownBlock = some k → ¬ S k) : w'.ownsRow base e size v n xs := by
  obtain ⟨hl, ⟨e, h0⟩ | ⟨b, cap, cur, e, hB, hh, hrest⟩⟩ := h
  · exact ⟨hl, .inl ⟨e, h0⟩⟩
  · exact ⟨hl, .inr ⟨b, cap, cur, e, hB, (ht.block b (Array.getElem?_eq_some_iff.1 hh).1 (hne b (by rw [e]; rfl))).trans hh, hrest⟩⟩
theorem own_cap16 {w : World} {B t s n c : Nat} {A : Option Addr} {xs : List Value} (h : w.ownsRow B t s (.slice A n c) n xs) : n ≤ c := by
  rcases h.2 with ⟨e, h0⟩ | ⟨g, cap, cur, e, _, _, hn8, _⟩
  · injection e with _ e2 e3; omega
  · injection e with _ e2 e3; subst e3; have h4 := hn8; omega
/-- Reads in memory of their own. -/
def Own16 (w w' : World) (vk : Value) (n1 : Nat) (A2 : Option Addr) (n2 c2 : Nat) (K : List ByteArray) (S : List Pq2) : Prop :=
  w'.ownsRow w.heap.size 9 1 vk n1 (K.map Value.string) ∧ Px w' (.slice A2 n2 c2) S ∧ (0 < S.length → ∀ a, A2 = some a → w.heap.size ≤ a.block ∧ a.block < w'.heap.size ∧ ∀ k, vk.ownBlock = some k → a.block ≠ k) ∧ n2 ≤ c2
set_option maxHeartbeats 4000000 in
theorem alike_16 (L : List ByteArray) (S : List Pq2) (A1 : Option Addr) (n1 c1 : Nat) (A2 : Option Addr) (n2 c2 : Nat) (w : World) (hk : Kx w (.slice A1 n1 c1) L) (hs : Px w (.slice A2 n2 c2) S) (hb1 : n1 ≤ 64) (hb2 : n2 ≤ 64) :
    Calls Try.prog 73 #[.agg #[.slice A1 n1 c1, .slice A2 n2 c2]] w fun e w' => ∃ vk A3 c3, e = .returned (.agg #[vk, .slice A3 n2 c3]) ∧ Own16 w w' vk n1 A3 n2 c3 L S ∧ Turn (fun _ => False) w w' := by
  have HCK := Lib.hid (fun W (hW : Turn (fun _ => False) w W) => cloneK_16 L A1 n1 c1 W (hk.still hW) (by omega))
  have HCS := Lib.hid (fun W (hW : Turn (fun _ => False) w W) => cloneS_16 S A2 n2 c2 W (hs.still hW) (by omega))
  obtain ⟨W1, hW1⟩ : ∃ W, w.alloc (.cells #[.slice A1 n1 c1, .slice A2 n2 c2] 60) = W := ⟨_, rfl⟩
  obtain ⟨W2, hW2⟩ : ∃ W, W1.alloc (.cells #[.slice none 0 0, .slice none 0 0] 60) = W := ⟨_, rfl⟩
  have T2 : Hid (Turn (fun _ => False) w W2) := Lib.hid (hW2 ▸ (hW1 ▸ (Turn.refl (fun _ => False) w).alloc _ : Turn (fun _ => False) w W1).alloc _)
  have B1 : Hid (Blk W2 w.heap.size 60 [.slice A1 n1 c1, .slice A2 n2 c2]) := Lib.hid (hW2 ▸ (show Blk W1 w.heap.size 60 [.slice A1 n1 c1, .slice A2 n2 c2] from hW1 ▸ Blk.new _ _ _).alloc _)
  have B2 : Hid (Blk W2 W1.heap.size 60 [.slice none 0 0, .slice none 0 0]) := Lib.hid (hW2 ▸ Blk.new _ _ _)
  clear hk hs
  go_enter Try.func73, Try.ntmps73
  go_upto_region 1 with fail
  have hlt0 : w.heap.size < W1.heap.size := by rw [← hW1]; simp
  have hle0 : w.heap.size ≤ W1.heap.size := by omega
  have T0 : Hid (Turn (fun _ => False) W2 W2.drew) := Lib.hid (Turn.refl _ _).drew
  have TM0 : Hid (Turn (fun k => k = W1.heap.size) W2 W2.drew) := Lib.hid (Turn.refl _ _).drew
  refine wp_region_noPanic ?_
  refine wp_region_held_drew (S := (fun X => Turn (fun k => k = W1.heap.size) W2 X)) (by kernel_rfl) TM0.out (fun hHeld => ?_)
  clear hHeld
  refine wpAnyH_take (i := 0) (v := ?_) rfl (by kernel_rfl) (by kernel_rfl) (by kernel_rfl) (fun _ _ _ h => h) (Or.inl ⟨by rfl, ?_⟩) (by assumption) ?_
  rotate_left 1
  · intro w' hSw
    go_simp
    all_goals first | with_reducible rfl | (rw [if_neg (by omega)]; done) | (rw [if_pos (by omega)]; done) | (rw [if_neg (by omega)]; with_reducible rfl) | (rw [if_pos (by omega)]; with_reducible rfl)
  try simp only [List.getElem_toArray, List.getElem_cons_zero, List.getElem_cons_succ, Act.put, List.setIfInBounds_toArray, List.set_cons_zero, List.set_cons_succ]
  refine wpAnyH_take (i := 1) (v := ?_) rfl (by kernel_rfl) (by kernel_rfl) (by kernel_rfl) (fun _ _ _ h => h) (Or.inl ⟨by rfl, ?_⟩) (by assumption) ?_
  rotate_left 1
  · intro w' hSw
    obtain ⟨x0, x1⟩ := cells2b16 (B1.out.turn hSw (fun h => by omega))
    go_simp
    all_goals first | with_reducible rfl | (rw [if_neg (by omega)]; done) | (rw [if_pos (by omega)]; done) | (rw [if_neg (by omega)]; with_reducible rfl) | (rw [if_pos (by omega)]; with_reducible rfl)
  try simp only [List.getElem_toArray, List.getElem_cons_zero, List.getElem_cons_succ, Act.put, List.setIfInBounds_toArray, List.set_cons_zero, List.set_cons_succ]
  refine wpAnyH_take (i := 3) (v := ?_) rfl (by kernel_rfl) (by kernel_rfl) (by kernel_rfl) (fun _ _ _ h => h) (Or.inl ⟨by rfl, ?_⟩) (by assumption) ?_
  rotate_left 1
  · intro w' hSw
    go_simp
    all_goals first | with_reducible rfl | (rw [if_neg (by omega)]; done) | (rw [if_pos (by omega)]; done) | (rw [if_neg (by omega)]; with_reducible rfl) | (rw [if_pos (by omega)]; with_reducible rfl)
  try simp only [List.getElem_toArray, List.getElem_cons_zero, List.getElem_cons_succ, Act.put, List.setIfInBounds_toArray, List.set_cons_zero, List.set_cons_succ]
  refine wpAnyH_take (i := 4) (v := ?_) rfl (by kernel_rfl) (by kernel_rfl) (by kernel_rfl) (fun _ _ _ h => h) (Or.inl ⟨by rfl, ?_⟩) (by assumption) ?_
  rotate_left 1
  · intro w' hSw
    obtain ⟨x0, x1⟩ := cells2b16 (B1.out.turn hSw (fun h => by omega))
    go_simp
    all_goals first | with_reducible rfl | (rw [if_neg (by omega)]; done) | (rw [if_pos (by omega)]; done) | (rw [if_neg (by omega)]; with_reducible rfl) | (rw [if_pos (by omega)]; with_reducible rfl)
  try simp only [List.getElem_toArray, List.getElem_cons_zero, List.getElem_cons_succ, Act.put, List.setIfInBounds_toArray, List.set_cons_zero, List.set_cons_succ]
  refine wpAnyH_ready (rs := [2]) (by kernel_rfl) (by simp) ?_
  refine AllReadyH.cons rfl (fun K hK => ?_) AllReadyH.nil
  refine step_call_on 82 Try.f82 _ _ rfl Try.func82 (by kernel_rfl) (by kernel_rfl) _ _ ((HCK.out _ (T2.out.trans T0.out)).mono fun e W' ⟨v', he, ho, ht⟩ => (⟨v', he, ho, ht⟩ : ∃ v, e = .returned v ∧ W'.ownsRow _ 9 1 v n1 (L.map Value.string) ∧ Turn (fun _ => False) _ W')) (by go_simp) (by rfl) ?_
  rintro v9 w6 ⟨ho, ht⟩
  obtain ⟨AK, cK, rfl⟩ := own_slice_ ho
  have T6 := Lib.hid (T0.out.trans ht)
  have O6 := Lib.hid ho
  clear ho ht
  have TM6 : Hid (Turn (fun k => k = W1.heap.size) W2 w6) := Lib.hid (T6.out.mono (fun _ _ h => h.elim))
  refine hK.out _ _ TM6.out (fun hHeld => ?_)
  clear hHeld hK K
  try simp only [List.getElem_toArray, List.getElem_cons_zero, List.getElem_cons_succ, Act.put, List.setIfInBounds_toArray, List.set_cons_zero, List.set_cons_succ]
  refine wpAnyH_ready (rs := [5]) (by kernel_rfl) (by simp) ?_
  refine AllReadyH.cons rfl (fun K hK => ?_) AllReadyH.nil
  refine step_call_on 122 Try.f122 _ _ rfl Try.func122 (by kernel_rfl) (by kernel_rfl) _ _ ((HCS.out _ (T2.out.trans T6.out)).mono fun e W' ⟨A', c', he, ho, hf, ht⟩ => (⟨.slice A' n2 c', he, A', c', rfl, ho, hf, ht⟩ : ∃ v, e = .returned v ∧ ∃ A' c', v = .slice A' n2 c' ∧ Px W' (.slice A' n2 c') S ∧ (Fw16 _ S A' ∧ n2 ≤ c') ∧ Turn (fun _ => False) _ W')) (by go_simp) (by rfl) ?_
  rintro v9 w7 ⟨A3, c3, rfl, ho, hf, ht⟩
  have T7 := Lib.hid (T6.out.trans ht)
  have O7 := Lib.hid (own_still_ O6.out ht)
  have P7 := Lib.hid ho
  have F7 := Lib.hid hf
  have D7 := Lib.hid (fun k hk => (own_ge9 O6.out k hk).2)
  have B7 := Lib.hid (B2.out.turn T7.out (fun h => h))
  clear ho ht hf
  have TM7 : Hid (Turn (fun k => k = W1.heap.size) W2 w7) := Lib.hid (T7.out.mono (fun _ _ h => h.elim))
  refine hK.out _ _ TM7.out (fun hHeld => ?_)
  clear hHeld hK K
  try simp only [List.getElem_toArray, List.getElem_cons_zero, List.getElem_cons_succ, Act.put, List.setIfInBounds_toArray, List.set_cons_zero, List.set_cons_succ]
  refine wpAnyH_take (i := 6) (v := ?_) rfl (by kernel_rfl) (by kernel_rfl) (by kernel_rfl) (fun _ _ _ h => h) (Or.inl ⟨by rfl, ?_⟩) (by assumption) ?_
  rotate_left 1
  · intro w' hSw
    go_simp
    all_goals first | with_reducible rfl | (rw [if_neg (by omega)]; done) | (rw [if_pos (by omega)]; done) | (rw [if_neg (by omega)]; with_reducible rfl) | (rw [if_pos (by omega)]; with_reducible rfl)
  try simp only [List.getElem_toArray, List.getElem_cons_zero, List.getElem_cons_succ, Act.put, List.setIfInBounds_toArray, List.set_cons_zero, List.set_cons_succ]
  refine wpAnyH_ready (rs := [7]) (by kernel_rfl) (by simp) ?_
  refine AllReadyH.cons rfl (fun K hK => ?_) AllReadyH.nil
  obtain ⟨r0, r1⟩ := cells2b16 B7.out
  have f0 := B7.out.free 0
  have f1 := B7.out.free 1
  go_simp
  have TM8 := Lib.hid ((TM7.out.setCell (p := ⟨W1.heap.size, 0, none⟩) (.inl rfl) (.slice AK n1 cK)).setCell (p := ⟨W1.heap.size, 1, none⟩) (.inl rfl) (.slice A3 n2 c3))
  refine hK.out _ _ TM8.out (fun hHeld => ?_)
  clear hHeld hK K
  try simp only [List.getElem_toArray, List.getElem_cons_zero, List.getElem_cons_succ, Act.put, List.setIfInBounds_toArray, List.set_cons_zero, List.set_cons_succ]
  refine wpAnyH_done (by kernel_rfl) ?_ _
  refine NoPanic.normal ?_
  obtain ⟨hb9, hs9⟩ := put2_16 B7.out (.slice AK n1 cK) (.slice A3 n2 c3)
  obtain ⟨e0, e1⟩ := cells2b16 hb9
  go_wp2_with fail
  have hn4 : ∀ k, (Value.slice AK n1 cK).ownBlock = some k → k ≠ W1.heap.size := fun k hk e => by
    have h1 := (own_ge9 O6.out k hk).1
    have h2 := B2.out.lt
    simp only [World.size_drew] at h1
    omega
  refine bodyPost_ret (v := .agg #[.slice AK n1 cK, .slice A3 n2 c3]) (by simp [results, Try.results73, go_sem, e0, e1]) rfl ⟨_, A3, c3, rfl, ⟨?_, ?_, ?_, F7.out.2⟩, ?_⟩
  · exact own_mono9 (own_tn16 O7.out hs9 hn4) (by have := T2.out.size; simp; omega)
  · refine P7.out.off16 (fun hp a e => ?_) hs9
    have h1 := F7.out.1 hp a e
    have h2 := B2.out.lt
    have h3 := T6.out.size
    omega
  · intro hp a e
    have h1 := F7.out.1 hp a e
    refine ⟨by have := T2.out.size; have := T6.out.size; omega, ?_, fun k hk e2 => ?_⟩
    · obtain ⟨A', c', e3, _, hr⟩ := P7.out
      injection e3 with e3 _ _
      obtain ⟨b, o, e4, hb, _⟩ := hr (by rw [flat_len pc2_len]; omega)
      rw [e3, e4] at e
      injection e with e
      subst e
      exact Nat.lt_of_lt_of_le hb hs9.size
    · have h2 := D7.out k hk
      omega
  · exact (T2.out.trans T7.out).trans_new hs9 (fun k hk e => by omega)
end Go.Proofs.Ytaebhbdmmnpgeaa
