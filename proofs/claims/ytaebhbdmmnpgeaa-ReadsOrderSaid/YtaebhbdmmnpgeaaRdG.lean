/- Layer 16: Key. -/
import Derived.Test.YtaebhbdmmnpgeaaRdF
namespace Go.Proofs.Ytaebhbdmmnpgeaa
open Go.RowKit Go.Shelf
set_option linter.unusedVariables false
set_option linter.unusedSimpArgs false
set_option maxRecDepth 100000
attribute [local go_sem] Oper.semAt_some

theorem Px.tn16 {w X : World} {A : Option Addr} {n c : Nat} {S : List Pq2} {T : Nat → Prop} (h : Px w (.slice A n c) S) (ht : Turn T w X) (hne : 0 < S.length → ∀ a, A = some a → ¬ T a.block) : Px X (.slice A n c) S := by
  obtain ⟨A', c', e, hl, hr⟩ := h
  injection e with e1 e2 e3
  subst e1 e2 e3
  refine ⟨A, c, rfl, hl, fun hp => ?_⟩
  obtain ⟨b, o, rfl, hb, hc⟩ := hr hp
  have hS : 0 < S.length := by
    rcases Nat.eq_zero_or_pos S.length with h0 | h0
    · rw [List.eq_nil_of_length_eq_zero h0] at hp; simp at hp
    · exact h0
  refine ⟨b, o, rfl, Nat.lt_of_lt_of_le hb ht.size, fun j u hj => ?_⟩
  rw [World.cell?_of_block (w := w) (a := ⟨b, o + j, none⟩) (ht.block b hb (hne hS _ rfl))]
  exact hc j u hj
theorem kr_of16 {w : World} {v : Value} {n : Nat} {K : List ByteArray} (hn : K.length = n) (h : w.ownsRow 0 9 1 v n (K.map Value.string)) : Kr w v K := by
  subst hn
  exact h
theorem free2_16 {W : World} {q t : Nat} {u0 u1 : Value} (h : Blk W q t [u0, u1]) : W.frozen? ⟨q, 0, none⟩ = false ∧ W.frozen? ⟨q, 1, none⟩ = false := ⟨h.free 0, h.free 1⟩
open Classical in
/-- What Key tells. -/
noncomputable def key16 (K : List ByteArray) (S : List Pq2) (key : ByteArray) : List ByteArray × List Pq2 × Int :=
  if rgb16 K S then (if cov16 K S key then (K, S, 0) else if K.length = 64 then ([], [], 9) else (insK K (plK K key) key, S, 0)) else ([], [], 4)
/-- Reads and an error, as they are told. -/
def RP16 (w : World) (r : List ByteArray × List Pq2 × Int) (e : Ending) (w' : World) : Prop :=
  ∃ (A1 : Option Addr) (n1 c1 : Nat) (A2 : Option Addr) (n2 c2 : Nat), e = .returned (.tuple #[.agg #[.slice A1 n1 c1, .slice A2 n2 c2], .int .i64 r.2.2]) ∧ Kx w' (.slice A1 n1 c1) r.1 ∧ Px w' (.slice A2 n2 c2) r.2.1 ∧ n2 ≤ c2 ∧ Turn (fun _ => False) w w'
theorem kx_nil16 (w : World) : Kx w (.slice none 0 0) [] := ⟨none, 0, rfl, by simp, fun h => by simp at h⟩
theorem px_nil16 (w : World) : Px w (.slice none 0 0) [] := ⟨none, 0, rfl, by simp, fun h => by simp at h⟩
set_option maxHeartbeats 8000000 in
theorem key_16 (L : List ByteArray) (S : List Pq2) (key : ByteArray) (A1 : Option Addr) (n1 c1 : Nat) (A2 : Option Addr) (n2 c2 : Nat) (w : World) (hk : Kx w (.slice A1 n1 c1) L) (hs : Px w (.slice A2 n2 c2) S) :
    Calls Try.prog 29 #[.agg #[.slice A1 n1 c1, .slice A2 n2 c2], .string key] w (RP16 w (key16 L S key)) := by
  have hn1 : L.length = n1 := by obtain ⟨_, _, e, _⟩ := id hk; injection e with _ e _; exact e.symm
  have hn2 : S.length = n2 := by obtain ⟨_, _, e, _⟩ := id hs; injection e with _ e _; exact e.symm
  have HCH := Lib.hid (fun W (hW : Turn (fun _ => False) w W) => check_16 L S A1 n1 c1 A2 n2 c2 W (hk.still hW) (hs.still hW))
  have HCO := Lib.hid (fun W (hW : Turn (fun _ => False) w W) => covers_16 L S key A1 n1 c1 A2 n2 c2 W (hk.still hW) (hs.still hW))
  have HAL := Lib.hid (fun (h1 : n1 ≤ 64) (h2 : n2 ≤ 64) W (hW : Turn (fun _ => False) w W) => alike_16 L S A1 n1 c1 A2 n2 c2 W (hk.still hW) (hs.still hW) h1 h2)
  obtain ⟨W1, hW1⟩ : ∃ W, w.alloc (.cells #[.slice A1 n1 c1, .slice A2 n2 c2] 60) = W := ⟨_, rfl⟩
  obtain ⟨W2, hW2⟩ : ∃ W, W1.alloc (.cells #[.slice none 0 0, .slice none 0 0] 60) = W := ⟨_, rfl⟩
  have T2 : Hid (Turn (fun _ => False) w W2) := Lib.hid (hW2 ▸ (hW1 ▸ (Turn.refl (fun _ => False) w).alloc _ : Turn (fun _ => False) w W1).alloc _)
  have B1 : Hid (Blk W2 w.heap.size 60 [.slice A1 n1 c1, .slice A2 n2 c2]) := Lib.hid (hW2 ▸ (show Blk W1 w.heap.size 60 [.slice A1 n1 c1, .slice A2 n2 c2] from hW1 ▸ Blk.new _ _ _).alloc _)
  have B2 : Hid (Blk W2 W1.heap.size 60 [.slice none 0 0, .slice none 0 0]) := Lib.hid (hW2 ▸ Blk.new _ _ _)
  have hlt0 : w.heap.size < W1.heap.size := by rw [← hW1]; simp
  obtain ⟨x0, x1⟩ := cells2b16 B1.out
  obtain ⟨r0, r1⟩ := cells2b16 B2.out
  obtain ⟨f0, f1⟩ := free2_16 B2.out
  have HN1 := Lib.hid hn1
  have HN2 := Lib.hid hn2
  clear hk hs hn1 hn2
  unfold key16
  cases hr : rgb16 L S with
  | false =>
    rw [hr] at HCH
    simp only [Bool.false_eq_true, if_false] at HCH ⊢
    clear hr
    go_enter Try.func29, Try.ntmps29
    go_wp2_with (go_at_call 33; refine (HCH.out _ T2.out).mono ?_; rintro e w3 ⟨rfl, ht⟩; have T3 := Lib.hid (T2.out.trans ht); have V3 := Lib.hid ht; obtain ⟨x0, x1⟩ := cells2b16 (B1.out.turn ht (fun h => h)); obtain ⟨r0, r1⟩ := cells2b16 (B2.out.turn ht (fun h => h)); obtain ⟨f0, f1⟩ := free2_16 (B2.out.turn ht (fun h => h)); clear ht)
    obtain ⟨hb9, hs9⟩ := put2_16 (B2.out.turn V3.out (fun h => h)) (.slice none 0 0) (.slice none 0 0)
    obtain ⟨e0, e1⟩ := cells2b16 hb9
    refine bodyPost_ret (v := .tuple #[.agg #[.slice none 0 0, .slice none 0 0], .int .i64 4]) (by simp [results, Try.results29, go_sem, e0, e1]) rfl ⟨none, 0, 0, none, 0, 0, rfl, kx_nil16 _, px_nil16 _, Nat.le_refl _, T3.out.trans_new hs9 (fun k hk e => by omega)⟩
  | true =>
    have HRG := Lib.hid (rgb_iff.1 hr)
    have HLE : Hid (n1 ≤ 64 ∧ n2 ≤ 64) := Lib.hid (by have := HRG.out.1; have := HN1.out; have := HN2.out; omega)
    rw [hr] at HCH HCO
    simp only [if_true, Bool.true_and] at HCH HCO ⊢
    clear hr
    cases hc : cov16 L S key with
    | true =>
      rw [hc] at HCO
      simp only [if_true]
      clear hc
      go_enter Try.func29, Try.ntmps29
      go_wp2_with (first
        | (go_at_call 73; refine (HAL.out HLE.out.1 HLE.out.2 _ T4.out).mono ?_; rintro e w5 ⟨vk, A3, c3, rfl, ho, ht⟩; have T5 := Lib.hid (T4.out.trans ht); have V5 := Lib.hid (V4.out.trans ht); obtain ⟨AK, cK, rfl⟩ := own_slice_ ho.1; have O5 := Lib.hid ho; have AL5 := Lib.hid ht; obtain ⟨x0, x1⟩ := cells2b16 (B1.out.turn (V4.out.trans ht) (fun h => h)); obtain ⟨r0, r1⟩ := cells2b16 (B2.out.turn (V4.out.trans ht) (fun h => h)); obtain ⟨f0, f1⟩ := free2_16 (B2.out.turn (V4.out.trans ht) (fun h => h)); clear ht ho)
        | (go_at_call 36; refine (HCO.out _ T3.out).mono ?_; rintro e w4 ⟨rfl, ht⟩; have T4 := Lib.hid (T3.out.trans ht); have V4 := Lib.hid (V3.out.trans ht); obtain ⟨x0, x1⟩ := cells2b16 (B1.out.turn (V3.out.trans ht) (fun h => h)); obtain ⟨r0, r1⟩ := cells2b16 (B2.out.turn (V3.out.trans ht) (fun h => h)); obtain ⟨f0, f1⟩ := free2_16 (B2.out.turn (V3.out.trans ht) (fun h => h)); clear ht)
        | (go_at_call 33; refine (HCH.out _ T2.out).mono ?_; rintro e w3 ⟨rfl, ht⟩; have T3 := Lib.hid (T2.out.trans ht); have V3 := Lib.hid ht; obtain ⟨x0, x1⟩ := cells2b16 (B1.out.turn ht (fun h => h)); obtain ⟨r0, r1⟩ := cells2b16 (B2.out.turn ht (fun h => h)); obtain ⟨f0, f1⟩ := free2_16 (B2.out.turn ht (fun h => h)); clear ht))
      obtain ⟨hb9, hs9⟩ := put2_16 (B2.out.turn V5.out (fun h => h)) (.slice AK n1 cK) (.slice A3 n2 c3)
      obtain ⟨e0, e1⟩ := cells2b16 hb9
      have hb2 := B2.out.lt
      have hv4 := V4.out.size
      refine bodyPost_ret (v := .tuple #[.agg #[.slice AK n1 cK, .slice A3 n2 c3], .int .i64 0]) (by simp [results, Try.results29, go_sem, e0, e1]) rfl ⟨AK, n1, cK, A3, n2, c3, rfl, ?_, ?_, O5.out.2.2.2, T5.out.trans_new hs9 (fun k hk e => by omega)⟩
      · have ho := own_tn16 O5.out.1 hs9 (fun k hk e => by have := (own_ge9 O5.out.1 k hk).1; omega)
        exact ⟨AK, cK, by rw [HN1.out], by rw [HN1.out]; have := HLE.out; omega, rc_own ho⟩
      · exact O5.out.2.1.off16 (fun hp a e => by have := (O5.out.2.2.1 hp a e).1; omega) hs9
    | false =>
      rw [hc] at HCO
      simp only [Bool.false_eq_true, if_false]
      clear hc
      by_cases h64 : L.length = 64
      · rw [if_pos h64]
        have hq : ((n1 : Int) == 64) = true := by rw [← HN1.out, h64]; rfl
        clear h64
        go_enter Try.func29, Try.ntmps29
        go_wp2_with (first
          | (go_at_call 36; refine (HCO.out _ T3.out).mono ?_; rintro e w4 ⟨rfl, ht⟩; have T4 := Lib.hid (T3.out.trans ht); have V4 := Lib.hid (V3.out.trans ht); obtain ⟨x0, x1⟩ := cells2b16 (B1.out.turn (V3.out.trans ht) (fun h => h)); obtain ⟨r0, r1⟩ := cells2b16 (B2.out.turn (V3.out.trans ht) (fun h => h)); obtain ⟨f0, f1⟩ := free2_16 (B2.out.turn (V3.out.trans ht) (fun h => h)); clear ht)
          | (go_at_call 33; refine (HCH.out _ T2.out).mono ?_; rintro e w3 ⟨rfl, ht⟩; have T3 := Lib.hid (T2.out.trans ht); have V3 := Lib.hid ht; obtain ⟨x0, x1⟩ := cells2b16 (B1.out.turn ht (fun h => h)); obtain ⟨r0, r1⟩ := cells2b16 (B2.out.turn ht (fun h => h)); obtain ⟨f0, f1⟩ := free2_16 (B2.out.turn ht (fun h => h)); clear ht))
        obtain ⟨hb9, hs9⟩ := put2_16 (B2.out.turn V4.out (fun h => h)) (.slice none 0 0) (.slice none 0 0)
        obtain ⟨e0, e1⟩ := cells2b16 hb9
        refine bodyPost_ret (v := .tuple #[.agg #[.slice none 0 0, .slice none 0 0], .int .i64 9]) (by simp [results, Try.results29, go_sem, e0, e1]) rfl ⟨none, 0, 0, none, 0, 0, rfl, kx_nil16 _, px_nil16 _, Nat.le_refl _, T4.out.trans_new hs9 (fun k hk e => by omega)⟩
      · rw [if_neg h64]
        have hq : ((n1 : Int) == 64) = false := by rw [← HN1.out]; simp; omega
        clear h64
        have HBS := Lib.hid (fun v W (h : Kx W v L) => bsearch16 L v key W h HRG.out.2.2.1 (by have := HRG.out.1; omega))
        have HIN := Lib.hid (fun v b W (h : Kr W v L) (hq : Blk W b 9 [.string key]) (hne : v.ownBlock ≠ some b) => insert14 L v (plK L key) b key W h (plK_le L key) (by have := HRG.out.1; omega) hq hne)
        have HPL := Lib.hid (plK_le L key)
        have HIL := Lib.hid (insK_len L (plK L key) key (plK_le L key))
        have hplk : plK L key ≤ 64 := by have := plK_le L key; have := HRG.out.1; omega
        obtain ⟨pk, hpk⟩ : ∃ k, plK L key = k := ⟨_, rfl⟩
        obtain ⟨hb, hhb⟩ : ∃ b, hasK L key = b := ⟨_, rfl⟩
        rw [hpk] at HBS HIN HIL hplk ⊢
        rw [hhb] at HBS
        rw [HN1.out] at HIL
        clear hpk hhb
        go_enter Try.func29, Try.ntmps29
        go_wp2_with (first
          | (go_at_call 75; refine (HIN.out (.slice AK n1 cK) w7.heap.size _ (HKR.out w7 U7.out) (Blk.new_ w7 9 [.string key] rfl) (HNE.out w7 U7.out)).mono ?_; rintro e w9 ⟨v9, rfl, hk9, ht9, hv9, hb9⟩; obtain ⟨A9, c9, rfl⟩ := own_slice_ hk9; rw [HIL.out] at hk9 hv9 ⊢; have K9 := Lib.hid hk9; have hlt : ∀ k, (Value.slice AK n1 cK).ownBlock = some k → w4.heap.size ≤ k ∧ k < w5.heap.size := fun k hk => own_ge9 O5.out.1 k hk; have HLT := Lib.hid hlt; have hsz5 := T5.out.size; have hsz4 := V4.out.size; have hB2 := B2.out.lt; have h57 : w5.heap.size < w7.heap.size := (by have := U7.out.size; simp at this; omega); have Q9 := Lib.hid ((Q7.out.alloc (.cells #[.string key] 9)).turn ht9 (fun e => by have := hlt _ e; omega)); have R9 := Lib.hid ((((B2.out.turn V5.out (fun h => h)).alloc (.cells #[.slice AK n1 cK, .slice A3 n2 c3] 60)).turn U7.out (fun h => h)).alloc (.cells #[.string key] 9) |>.turn ht9 (fun e => by have := hlt _ e; omega)); have hv5 := V5.out.size; have T9z := Lib.hid AL5.out; have hne5 : ∀ k, (Value.slice A9 (n1 + 1) c9).ownBlock = some k → w4.heap.size ≤ k ∧ k ≠ w5.heap.size := (fun k hk => hv9.elim (fun h => by rw [h] at hk; have := hlt k hk; omega) (fun h => by rw [h] at hk; injection hk with hk; simp at hk; have := T5.out.size; have := V4.out.size; have hz := O5.out.1; have := T9z.out.size; omega)); have T9 := Lib.hid ((((T5.out.alloc (.cells #[.slice AK n1 cK, .slice A3 n2 c3] 60)).trans U7.out).alloc (.cells #[.string key] 9)).trans_new ht9 (fun k hk e => by have := hlt k e; have := T4.out.size; omega)); have P9 : Hid (Px w9 (.slice A3 n2 c3) S) := Lib.hid ((((O5.out.2.1.still ((Turn.refl _ _).alloc (.cells #[.slice AK n1 cK, .slice A3 n2 c3] 60))).still U7.out).still ((Turn.refl _ _).alloc (.cells #[.string key] 9))).tn16 ht9 (fun hp a e h => (O5.out.2.2.1 hp a e).2.2 _ h rfl)); have HN5 := Lib.hid hne5; obtain ⟨q0, q1⟩ := cells2b16 Q9.out; obtain ⟨g0, g1⟩ := free2_16 Q9.out; have Q10 := Lib.hid (Q9.out.put 0 (.slice A9 (n1 + 1) c9)); obtain ⟨m0, m1⟩ := cells2b16 Q10.out; have S10 : Hid (Turn (fun k => k = w5.heap.size) w9 (w9.setCell ⟨w5.heap.size, 0, none⟩ (.slice A9 (n1 + 1) c9))) := Lib.hid ((Turn.refl (fun k => k = w5.heap.size) w9).setCell (p := ⟨w5.heap.size, 0, none⟩) (.inl rfl) _); have R10 := Lib.hid (R9.out.turn S10.out (fun e => by omega)); obtain ⟨r0, r1⟩ := cells2b16 R10.out; obtain ⟨f0, f1⟩ := free2_16 R10.out; clear hk9 ht9 hv9 hb9 hlt hne5)
          | (go_at_call 74; refine (HBS.out _ _ K6.out).mono ?_; rintro e w7 ⟨rfl, ht⟩; have U7 := Lib.hid ht; have Q7 := Lib.hid (Q6.out.turn ht (fun h => h)); obtain ⟨q0, q1⟩ := cells2b16 Q7.out; clear ht)
          | (go_at_call 73; refine (HAL.out HLE.out.1 HLE.out.2 _ T4.out).mono ?_; rintro e w5 ⟨vk, A3, c3, rfl, ho, ht⟩; have T5 := Lib.hid (T4.out.trans ht); have V5 := Lib.hid (V4.out.trans ht); obtain ⟨AK, cK, rfl⟩ := own_slice_ ho.1; have O5 := Lib.hid ho; have AL5 := Lib.hid ht; obtain ⟨x0, x1⟩ := cells2b16 (B1.out.turn (V4.out.trans ht) (fun h => h)); obtain ⟨r0, r1⟩ := cells2b16 (B2.out.turn (V4.out.trans ht) (fun h => h)); obtain ⟨f0, f1⟩ := free2_16 (B2.out.turn (V4.out.trans ht) (fun h => h)); have Q6 := Lib.hid (Blk.new w5 60 [.slice AK n1 cK, .slice A3 n2 c3]); obtain ⟨q0, q1⟩ := cells2b16 Q6.out; have K6 : Hid (Kx (w5.alloc (.cells #[.slice AK n1 cK, .slice A3 n2 c3] 60)) (.slice AK n1 cK) L) := Lib.hid ⟨AK, cK, by rw [HN1.out], by rw [HN1.out]; have := HLE.out; omega, (rc_own ho.1).still ((Turn.refl _ _).alloc _)⟩; have HKR : Hid (∀ w7, Turn (fun _ => False) (w5.alloc (.cells #[.slice AK n1 cK, .slice A3 n2 c3] 60)) w7 → Kr (w7.alloc (.cells #[.string key] 9)) (.slice AK n1 cK) L) := Lib.hid (fun w7 h => kr_of16 HN1.out (own_mono9 (own_still_ ho.1 ((((Turn.refl _ _).alloc _).trans h).alloc _)) (Nat.zero_le _))); have HNE : Hid (∀ w7, Turn (fun _ => False) (w5.alloc (.cells #[.slice AK n1 cK, .slice A3 n2 c3] 60)) w7 → (Value.slice AK n1 cK).ownBlock ≠ some w7.heap.size) := Lib.hid (fun w7 h e => by have h1 := (own_ge9 ho.1 _ e).2; have h2 := h.size; simp at h2; omega); clear ht ho)
          | (go_at_call 36; refine (HCO.out _ T3.out).mono ?_; rintro e w4 ⟨rfl, ht⟩; have T4 := Lib.hid (T3.out.trans ht); have V4 := Lib.hid (V3.out.trans ht); obtain ⟨x0, x1⟩ := cells2b16 (B1.out.turn (V3.out.trans ht) (fun h => h)); obtain ⟨r0, r1⟩ := cells2b16 (B2.out.turn (V3.out.trans ht) (fun h => h)); obtain ⟨f0, f1⟩ := free2_16 (B2.out.turn (V3.out.trans ht) (fun h => h)); clear ht)
          | (go_at_call 33; refine (HCH.out _ T2.out).mono ?_; rintro e w3 ⟨rfl, ht⟩; have T3 := Lib.hid (T2.out.trans ht); have V3 := Lib.hid ht; obtain ⟨x0, x1⟩ := cells2b16 (B1.out.turn ht (fun h => h)); obtain ⟨r0, r1⟩ := cells2b16 (B2.out.turn ht (fun h => h)); obtain ⟨f0, f1⟩ := free2_16 (B2.out.turn ht (fun h => h)); clear ht))
        obtain ⟨hb9, hs9⟩ := put2_16 R10.out (.slice A9 (n1 + 1) c9) (.slice A3 n2 c3)
        obtain ⟨e0, e1⟩ := cells2b16 hb9
        have hz5 := T5.out.size
        have hz9 := T9.out.size
        refine bodyPost_ret (v := .tuple #[.agg #[.slice A9 (n1 + 1) c9, .slice A3 n2 c3], .int .i64 0]) (by simp [results, Try.results29, go_sem, e0, e1]) rfl ⟨A9, n1 + 1, c9, A3, n2, c3, rfl, ?_, ?_, O5.out.2.2.2, ?_⟩
        · have h1 := (K9.out.turn S10.out (fun k hk => (HN5.out k hk).2)).turn hs9 (fun k hk e => by have h1 := (HN5.out k hk).1; have h2 := V4.out.size; have h3 := B2.out.lt; omega)
          have h2 := h1.kx (by rw [HIL.out]; have := HLE.out; omega)
          exact h2
        · exact (P9.out.off16 (fun hp a e => by have := (O5.out.2.2.1 hp a e).2.1; omega) S10.out).off16 (fun hp a e => by have := (O5.out.2.2.1 hp a e).1; omega) hs9
        · exact (T9.out.trans_new S10.out (fun k hk e => by omega)).trans_new hs9 (fun k hk e => by omega)
end Go.Proofs.Ytaebhbdmmnpgeaa
