/- ReadsGrow: its walk. -/
import Derived.Test.YtjkfgbmlhglnfaaRdY
import Derived.Test.YtjkfgbmlhglnfaaRdN
namespace Go.Proofs.Ytjkfgbmlhglnfaa
open Go.RowKit Go.Shelf
set_option linter.unusedVariables false
set_option linter.unusedSimpArgs false
set_option maxRecDepth 100000
attribute [local go_sem] Oper.semAt_some

theorem key_len16 (L : List ByteArray) (S : List Pq2) (key : ByteArray) (h1 : L.length ≤ 100) (h2 : S.length ≤ 100) : (key16 L S key).1.length ≤ 1000 ∧ (key16 L S key).2.1.length ≤ 1000 := by
  have h3 : (insK L (plK L key) key).length ≤ 1000 := by unfold insK; simp; omega
  unfold key16
  split
  · split
    · exact ⟨by simp only; omega, by simp only; omega⟩
    · split
      · exact ⟨by simp, by simp⟩
      · exact ⟨h3, by simp only; omega⟩
  · exact ⟨by simp, by simp⟩
theorem span_len16 (L : List ByteArray) (S : List Pq2) (s : Pq2) (h1 : L.length ≤ 100) (h2 : S.length ≤ 100) : (span16 L S s).1.length ≤ 1000 ∧ (span16 L S s).2.1.length ≤ 1000 := by
  have h3 := tog_len S s
  have h4 : (L.filter (fun k => !spd16 (tog16 S s) k)).length ≤ L.length := List.length_filter_le _ _
  unfold span16
  split
  · split
    · split
      · exact ⟨by simp, by simp⟩
      · exact ⟨by simp only; omega, by simp only; omega⟩
    · exact ⟨by simp only; omega, by simp only; omega⟩
  · exact ⟨by simp, by simp⟩
theorem Kx.fore {w : World} {D : Option Addr} {n d : Nat} {L : List ByteArray} {q : ByteArray} (h : Kx w (.slice D (n + 1) d) (L ++ [q])) (hn : L.length = n) : Kx w (.slice D n d) L := by
  obtain ⟨A, c, e, hl, hr⟩ := h
  injection e with e1 e2 e3
  subst e1
  rw [List.length_append] at hl
  refine ⟨D, d, by rw [hn], by simp at hl; omega, fun hp => ?_⟩
  obtain ⟨b, o, e, hb, hc⟩ := hr (by simp)
  exact ⟨b, o, e, hb, fun j u hj => hc j u (by rw [List.map_append, List.getElem?_append_left (List.getElem?_eq_some_iff.1 hj).1]; exact hj)⟩
theorem Px.fore {w : World} {D : Option Addr} {n d : Nat} {S : List Pq2} {q : Pq2} (h : Px w (.slice D (n + 1) d) (S ++ [q])) (hn : S.length = n) : Px w (.slice D n d) S := by
  obtain ⟨A, c, e, hl, hr⟩ := h
  injection e with e1 e2 e3
  subst e1
  rw [List.length_append] at hl
  refine ⟨D, d, by rw [hn], by simp at hl; omega, fun hp => ?_⟩
  obtain ⟨b, o, e, hb, hc⟩ := hr (by rw [flat_len pc2_len]; simp)
  exact ⟨b, o, e, hb, fun j u hj => hc j u (by rw [List.flatMap_append, List.getElem?_append_left (List.getElem?_eq_some_iff.1 hj).1]; exact hj)⟩
theorem Kx.size {w : World} {A : Option Addr} {n c : Nat} {K : List ByteArray} (h : Kx w (.slice A n c) K) : n = K.length := by
  obtain ⟨_, _, e, _⟩ := h
  injection e with _ e _
theorem Px.size {w : World} {A : Option Addr} {n c : Nat} {S : List Pq2} (h : Px w (.slice A n c) S) : n = S.length := by
  obtain ⟨_, _, e, _⟩ := h
  injection e with _ e _
set_option maxHeartbeats 16000000 in
theorem readsGrow_of (L : List ByteArray) (S : List Pq2) (A1 : Option Addr) (n1 c1 : Nat) (A2 : Option Addr) (n2 c2 : Nat) (fa fb : ByteArray) (w : World)
    (hk : Kx w (.slice A1 n1 c1) L) (hs : Px w (.slice A2 n2 c2) S) (hcap : n2 ≤ c2) (hzk : ∀ k ∈ L, Szd k) (hzs : ∀ s ∈ S, Szd s.k ∧ Szd s.v) (hza : Szd fa) (hzb : Szd fb) :
    Calls Try.prog 5 #[.agg #[.slice A1 n1 c1, .slice A2 n2 c2], .string fa, .string fb] w fun r w' => r = .returned (.bool true) ∧ Turn (fun _ => False) w w' := by
  have hn1 : L.length = n1 := hk.size.symm
  have hn2 : S.length = n2 := hs.size.symm
  have HFW := Lib.hid (fun W => few_16 A1 n1 c1 A2 n2 c2 W)
  have HK := Lib.hid hk
  have HS := Lib.hid hs
  have HN1 := Lib.hid hn1
  have HN2 := Lib.hid hn2
  obtain ⟨W1, hW1⟩ : ∃ W, w.alloc (.cells #[.slice A1 n1 c1, .slice A2 n2 c2] 46) = W := ⟨_, rfl⟩
  have T1 : Hid (Turn (fun _ => False) w W1) := Lib.hid (hW1 ▸ (Turn.refl _ _).alloc _)
  have B1 : Hid (Blk W1 w.heap.size 46 [.slice A1 n1 c1, .slice A2 n2 c2]) := Lib.hid (hW1 ▸ Blk.new _ _ _)
  obtain ⟨x0, x1⟩ := cells2b16 B1.out
  cases hfw : decide (n1 ≤ 100 ∧ n2 ≤ 100) with
  | false =>
    rw [hfw] at HFW
    clear hfw hk hs hn1 hn2
    go_enter Try.func5, Try.ntmps5
    go_wp2_with (first
      | (go_at_call 17; refine (lives_16 _).mono ?_; rintro e w9 ⟨rfl, t9⟩; have T9 := Lib.hid (T2.out.trans t9); clear t9)
      | (go_at_call 16; refine (HFW.out _).mono ?_; rintro e w2 ⟨rfl, t2⟩; have T2 := Lib.hid (T1.out.trans t2); clear t2))
    go_ret
    exact ⟨rfl, T9.out⟩
  | true =>
    rw [hfw] at HFW
    have hle : n1 ≤ 100 ∧ n2 ≤ 100 := of_decide_eq_true hfw
    obtain ⟨kr, hkr⟩ : ∃ r, key16 L S fa = r := ⟨_, rfl⟩
    obtain ⟨sr, hsr⟩ : ∃ r, span16 L S ⟨fa, fb⟩ = r := ⟨_, rfl⟩
    have HKL : Hid (kr.1.length ≤ 1000 ∧ kr.2.1.length ≤ 1000) := Lib.hid (hkr ▸ key_len16 L S fa (by omega) (by omega))
    have HSL : Hid (sr.1.length ≤ 1000 ∧ sr.2.1.length ≤ 1000) := Lib.hid (hsr ▸ span_len16 L S ⟨fa, fb⟩ (by omega) (by omega))
    obtain ⟨ck, hck0⟩ : ∃ r : Int, (if rgb16 L S then (0 : Int) else 4) = r := ⟨_, rfl⟩
    have HOW := Lib.hid (fun W (hW : Turn (fun _ => False) w W) => own_16 L S A1 n1 c1 A2 n2 c2 W (hk.still hW) (hs.still hW) hle.1 hle.2)
    have HKP : Hid (∀ D1 d1 D2 d2 W, Kx W (.slice D1 n1 d1) L → Px W (.slice D2 n2 d2) S → Calls Try.prog 19 #[.agg #[.slice D1 n1 d1, .slice D2 n2 d2], .string fa] W (RP16 W kr)) := Lib.hid (fun D1 d1 D2 d2 W h1 h2 => hkr ▸ key_16 L S fa D1 n1 d1 D2 n2 d2 W h1 h2)
    have HKR : Hid (∀ W, Turn (fun _ => False) w W → Calls Try.prog 20 #[.agg #[.slice A1 n1 c1, .slice A2 n2 c2], .string fa] W (RP16 W kr)) := Lib.hid (fun W hW => hkr ▸ refKey_16 L S fa A1 n1 c1 A2 n2 c2 W (hk.still hW) (hs.still hW) hcap hzk hzs hza)
    have HSP : Hid (∀ D1 d1 D2 d2 W, Kx W (.slice D1 n1 d1) L → Px W (.slice D2 n2 d2) S → n2 ≤ d2 → Calls Try.prog 21 #[.agg #[.slice D1 n1 d1, .slice D2 n2 d2], .string fa, .string fb] W (RP16 W sr)) := Lib.hid (fun D1 d1 D2 d2 W h1 h2 h3 => hsr ▸ span_16 L S fa fb D1 n1 d1 D2 n2 d2 W h1 h2 h3)
    have HSR : Hid (∀ W, Turn (fun _ => False) w W → Calls Try.prog 22 #[.agg #[.slice A1 n1 c1, .slice A2 n2 c2], .string fa, .string fb] W (RP16 W sr)) := Lib.hid (fun W hW => hsr ▸ refSpan_16 L S fa fb A1 n1 c1 A2 n2 c2 W (hk.still hW) (hs.still hW) hcap hzk hzs hza hzb)
    have HCP : Hid (∀ D1 d1 D2 d2 W, Kx W (.slice D1 n1 d1) L → Px W (.slice D2 n2 d2) S → Calls Try.prog 23 #[.agg #[.slice D1 n1 d1, .slice D2 n2 d2]] W fun e w' => e = .returned (.int .i64 ck) ∧ Turn (fun _ => False) W w') := Lib.hid (fun D1 d1 D2 d2 W h1 h2 => hck0 ▸ check_16 L S D1 n1 d1 D2 n2 d2 W h1 h2)
    have HCR : Hid (∀ W, Turn (fun _ => False) w W → Calls Try.prog 24 #[.agg #[.slice A1 n1 c1, .slice A2 n2 c2]] W fun e w' => e = .returned (.int .i64 ck) ∧ Turn (fun _ => False) W w') := Lib.hid (fun W hW => hck0 ▸ refCheck_16 L S A1 n1 c1 A2 n2 c2 W (hk.still hW) (hs.still hW) hzk hzs)
    clear hfw hk hs hzk hzs hza hzb hkr hsr hck0
    obtain ⟨hle1, hle2⟩ := hle
    have hn1 := HN1.out
    have hn2 := HN2.out
    clear hn1 hn2
    go_enter Try.func5, Try.ntmps5
    go_upto_region 8 with (first
      | (go_at_call 22; refine (HSR.out _ T6.out).mono ?_; rintro e w7 ⟨A7a, n7a, c7a, A7b, n7b, c7b, rfl, hk7, hs7, _, ht⟩; have ht := ht.alloc (.cells #[.slice A7a n7a c7a, .slice A7b n7b c7b] 46); have T7 := Lib.hid (T6.out.trans ht); have B7 := Lib.hid (B6.out.turn ht (fun h => h)); have X7 := Lib.hid (X6.out.turn ht (fun h => h)); have Q7 := Lib.hid (Q6.out.still ht); have U7 := Lib.hid (U6.out.still ht); have K7 := Lib.hid (K6.out.still ht); have S7 := Lib.hid (S6.out.still ht); have Eab7 := Lib.hid (Eab6.out.turn ht (fun h => h)); have Eak7 := Lib.hid (Eak6.out.still ht); have Eas7 := Lib.hid (Eas6.out.still ht); have Ebb7 := Lib.hid (Ebb6.out.turn ht (fun h => h)); have Ebk7 := Lib.hid (Ebk6.out.still ht); have Ebs7 := Lib.hid (Ebs6.out.still ht); have Ecb7 := Lib.hid (Ecb6.out.turn ht (fun h => h)); have Eck7 := Lib.hid (Eck6.out.still ht); have Ecs7 := Lib.hid (Ecs6.out.still ht); have Edb7 := Lib.hid (Blk.new w7 46 [.slice A7a n7a c7a, .slice A7b n7b c7b]); have Edk7 := Lib.hid (hk7.still ((Turn.refl _ _).alloc (.cells #[.slice A7a n7a c7a, .slice A7b n7b c7b] 46))); have Eds7 := Lib.hid (hs7.still ((Turn.refl _ _).alloc (.cells #[.slice A7a n7a c7a, .slice A7b n7b c7b] 46))); have Edn7 : Hid (n7a ≤ 1000 ∧ n7b ≤ 1000) := Lib.hid (by have := hk7.size; have := hs7.size; have := HSL.out; omega); obtain ⟨y0, y1⟩ := cells2b16 X7.out; obtain ⟨x0, x1⟩ := cells2b16 B7.out; clear hk7 hs7 ht)
      | (go_at_call 21; refine (HSP.out _ _ _ _ _ K5.out S5.out (by omega)).mono ?_; rintro e w6 ⟨A6a, n6a, c6a, A6b, n6b, c6b, rfl, hk6, hs6, _, ht⟩; have ht := ht.alloc (.cells #[.slice A6a n6a c6a, .slice A6b n6b c6b] 46); have T6 := Lib.hid (T5.out.trans ht); have B6 := Lib.hid (B5.out.turn ht (fun h => h)); have X6 := Lib.hid (X5.out.turn ht (fun h => h)); have Q6 := Lib.hid (Q5.out.still ht); have U6 := Lib.hid (U5.out.still ht); have K6 := Lib.hid (K5.out.still ht); have S6 := Lib.hid (S5.out.still ht); have Eab6 := Lib.hid (Eab5.out.turn ht (fun h => h)); have Eak6 := Lib.hid (Eak5.out.still ht); have Eas6 := Lib.hid (Eas5.out.still ht); have Ebb6 := Lib.hid (Ebb5.out.turn ht (fun h => h)); have Ebk6 := Lib.hid (Ebk5.out.still ht); have Ebs6 := Lib.hid (Ebs5.out.still ht); have Ecb6 := Lib.hid (Blk.new w6 46 [.slice A6a n6a c6a, .slice A6b n6b c6b]); have Eck6 := Lib.hid (hk6.still ((Turn.refl _ _).alloc (.cells #[.slice A6a n6a c6a, .slice A6b n6b c6b] 46))); have Ecs6 := Lib.hid (hs6.still ((Turn.refl _ _).alloc (.cells #[.slice A6a n6a c6a, .slice A6b n6b c6b] 46))); have Ecn6 : Hid (n6a ≤ 1000 ∧ n6b ≤ 1000) := Lib.hid (by have := hk6.size; have := hs6.size; have := HSL.out; omega); obtain ⟨y0, y1⟩ := cells2b16 X6.out; obtain ⟨x0, x1⟩ := cells2b16 B6.out; clear hk6 hs6 ht)
      | (go_at_call 20; refine (HKR.out _ T4.out).mono ?_; rintro e w5 ⟨A5a, n5a, c5a, A5b, n5b, c5b, rfl, hk5, hs5, _, ht⟩; have ht := ht.alloc (.cells #[.slice A5a n5a c5a, .slice A5b n5b c5b] 46); have T5 := Lib.hid (T4.out.trans ht); have B5 := Lib.hid (B4.out.turn ht (fun h => h)); have X5 := Lib.hid (X4.out.turn ht (fun h => h)); have Q5 := Lib.hid (Q4.out.still ht); have U5 := Lib.hid (U4.out.still ht); have K5 := Lib.hid (K4.out.still ht); have S5 := Lib.hid (S4.out.still ht); have Eab5 := Lib.hid (Eab4.out.turn ht (fun h => h)); have Eak5 := Lib.hid (Eak4.out.still ht); have Eas5 := Lib.hid (Eas4.out.still ht); have Ebb5 := Lib.hid (Blk.new w5 46 [.slice A5a n5a c5a, .slice A5b n5b c5b]); have Ebk5 := Lib.hid (hk5.still ((Turn.refl _ _).alloc (.cells #[.slice A5a n5a c5a, .slice A5b n5b c5b] 46))); have Ebs5 := Lib.hid (hs5.still ((Turn.refl _ _).alloc (.cells #[.slice A5a n5a c5a, .slice A5b n5b c5b] 46))); have Ebn5 : Hid (n5a ≤ 1000 ∧ n5b ≤ 1000) := Lib.hid (by have := hk5.size; have := hs5.size; have := HKL.out; omega); obtain ⟨y0, y1⟩ := cells2b16 X5.out; obtain ⟨x0, x1⟩ := cells2b16 B5.out; clear hk5 hs5 ht)
      | (go_at_call 19; refine (HKP.out _ _ _ _ _ K3.out S3.out).mono ?_; rintro e w4 ⟨A4a, n4a, c4a, A4b, n4b, c4b, rfl, hk4, hs4, _, ht⟩; have ht := ht.alloc (.cells #[.slice A4a n4a c4a, .slice A4b n4b c4b] 46); have T4 := Lib.hid (T3.out.trans ht); have B4 := Lib.hid (B3.out.turn ht (fun h => h)); have X4 := Lib.hid (X3.out.turn ht (fun h => h)); have Q4 := Lib.hid (Q3.out.still ht); have U4 := Lib.hid (U3.out.still ht); have K4 := Lib.hid (K3.out.still ht); have S4 := Lib.hid (S3.out.still ht); have Eab4 := Lib.hid (Blk.new w4 46 [.slice A4a n4a c4a, .slice A4b n4b c4b]); have Eak4 := Lib.hid (hk4.still ((Turn.refl _ _).alloc (.cells #[.slice A4a n4a c4a, .slice A4b n4b c4b] 46))); have Eas4 := Lib.hid (hs4.still ((Turn.refl _ _).alloc (.cells #[.slice A4a n4a c4a, .slice A4b n4b c4b] 46))); have Ean4 : Hid (n4a ≤ 1000 ∧ n4b ≤ 1000) := Lib.hid (by have := hk4.size; have := hs4.size; have := HKL.out; omega); obtain ⟨y0, y1⟩ := cells2b16 X4.out; obtain ⟨x0, x1⟩ := cells2b16 B4.out; clear hk4 hs4 ht)
      | (go_at_call 18; refine (HOW.out _ T2.out).mono ?_; rintro e w3 ⟨D1, d1, D2, d2, rfl, ho⟩; obtain ⟨kb, ko, hD1, _⟩ := ho.k.cells (by simp); obtain ⟨sb, so, hD2, _⟩ := ho.s.cells (by simp); subst hD1 hD2; have hd1 : n1 + 1 ≤ d1 := ho.c1; have hd2 : n2 + 1 ≤ d2 := ho.c2; have ht := ho.t.alloc (.cells #[.slice (some ⟨kb, ko, none⟩) n1 d1, .slice (some ⟨sb, so, none⟩) n2 d2] 46); have T3 := Lib.hid (T2.out.trans ht); have B3 := Lib.hid (B2.out.turn ht (fun h => h)); have X3 := Lib.hid (Blk.new w3 46 [.slice (some ⟨kb, ko, none⟩) n1 d1, .slice (some ⟨sb, so, none⟩) n2 d2]); have Q3 := Lib.hid (ho.k.still ((Turn.refl _ _).alloc (.cells #[.slice (some ⟨kb, ko, none⟩) n1 d1, .slice (some ⟨sb, so, none⟩) n2 d2] 46))); have U3 := Lib.hid (ho.s.still ((Turn.refl _ _).alloc (.cells #[.slice (some ⟨kb, ko, none⟩) n1 d1, .slice (some ⟨sb, so, none⟩) n2 d2] 46))); have K3 := Lib.hid (Q3.out.fore HN1.out); have S3 := Lib.hid (U3.out.fore HN2.out); obtain ⟨y0, y1⟩ := cells2b16 X3.out; obtain ⟨x0, x1⟩ := cells2b16 B3.out; clear ho ht)
      | (go_at_call 16; refine (HFW.out _).mono ?_; rintro e w2 ⟨rfl, t2⟩; have T2 := Lib.hid (T1.out.trans t2); have B2 := Lib.hid (B1.out.turn t2 (fun h => h)); obtain ⟨x0, x1⟩ := cells2b16 B2.out; clear t2))
    obtain ⟨wz, hwz⟩ : ∃ X, w7.alloc (.cells #[.slice A7a n7a c7a, .slice A7b n7b c7b] 46) = X := ⟨_, rfl⟩
    rw [hwz] at T7 B7 X7 Q7 U7 K7 S7 Eab7 Eak7 Eas7 Ebb7 Ebk7 Ebs7 Ecb7 Eck7 Ecs7 Edb7 Edk7 Eds7 ⊢
    clear hwz
    clear x0 x1 y0 y1
    have V20 : Hid (Turn (fun _ => False) wz wz.drew) := Lib.hid (Turn.refl _ _).drew
    refine wp_region_noPanic ?_
    refine wp_region_held_drew (S := (fun X => Turn (fun _ => False) wz X)) (by kernel_rfl) V20.out (fun hHeld => ?_)
    clear hHeld
    refine wpAnyH_take (i := 0) (v := ?_) rfl (by kernel_rfl) (by kernel_rfl) (by kernel_rfl) (fun _ _ _ h => h) (Or.inl ⟨by rfl, ?_⟩) (by assumption) ?_
    rotate_left 1
    · intro w' hSw
      obtain ⟨g0, g1⟩ := cells2b16 (X7.out.turn hSw (fun h => h))
      go_simp
      all_goals first | with_reducible rfl | (rw [if_neg (by omega)]; done) | (rw [if_pos (by omega)]; done)
    try simp only [List.getElem_toArray, List.getElem_cons_zero, List.getElem_cons_succ, Act.put, List.setIfInBounds_toArray, List.set_cons_zero, List.set_cons_succ]
    refine wpAnyH_take (i := 2) (v := ?_) rfl (by kernel_rfl) (by kernel_rfl) (by kernel_rfl) (fun _ _ _ h => h) (Or.inl ⟨by rfl, ?_⟩) (by assumption) ?_
    rotate_left 1
    · intro w' hSw
      obtain ⟨g0, g1⟩ := cells2b16 (B7.out.turn hSw (fun h => h))
      go_simp
      all_goals first | with_reducible rfl | (rw [if_neg (by omega)]; done) | (rw [if_pos (by omega)]; done)
    try simp only [List.getElem_toArray, List.getElem_cons_zero, List.getElem_cons_succ, Act.put, List.setIfInBounds_toArray, List.set_cons_zero, List.set_cons_succ]
    refine wpAnyH_ready (rs := [1]) (by kernel_rfl) (by simp) ?_
    refine AllReadyH.cons rfl (fun K hK => ?_) AllReadyH.nil
    refine step_call rfl 23 Try.f23 _ _ rfl Try.func23 (by kernel_rfl) (by kernel_rfl) _ _ ((HCP.out _ _ _ _ _ (K7.out.still V20.out) (S7.out.still V20.out)).mono fun e W' h => (⟨_, h.1, rfl, h.2⟩ : ∃ v, e = .returned v ∧ v = _ ∧ Turn (fun _ => False) _ W')) (by go_simp) ?_
    rintro v9 w21 ⟨rfl, ht9⟩
    have V21 := Lib.hid (V20.out.trans ht9)
    clear ht9
    refine hK.out _ _ V21.out (fun hHeld => ?_)
    clear hHeld hK K
    try simp only [List.getElem_toArray, List.getElem_cons_zero, List.getElem_cons_succ, Act.put, List.setIfInBounds_toArray, List.set_cons_zero, List.set_cons_succ]
    refine wpAnyH_ready (rs := [3]) (by kernel_rfl) (by simp) ?_
    refine AllReadyH.cons rfl (fun K hK => ?_) AllReadyH.nil
    refine step_call rfl 24 Try.f24 _ _ rfl Try.func24 (by kernel_rfl) (by kernel_rfl) _ _ ((HCR.out _ (T7.out.trans V21.out)).mono fun e W' h => (⟨_, h.1, rfl, h.2⟩ : ∃ v, e = .returned v ∧ v = _ ∧ Turn (fun _ => False) _ W')) (by go_simp) ?_
    rintro v9 w22 ⟨rfl, ht9⟩
    have V22 := Lib.hid (V21.out.trans ht9)
    clear ht9
    refine hK.out _ _ V22.out (fun hHeld => ?_)
    clear hHeld hK K
    try simp only [List.getElem_toArray, List.getElem_cons_zero, List.getElem_cons_succ, Act.put, List.setIfInBounds_toArray, List.set_cons_zero, List.set_cons_succ]
    refine wpAnyH_take (i := 4) (v := .bool false) rfl (by kernel_rfl) (by kernel_rfl) (by kernel_rfl) (fun _ _ _ h => h) (Or.inl ⟨by rfl, ?_⟩) (by assumption) ?_
    · intro w' hSw
      go_simp
      all_goals first | (simp; done) | with_reducible rfl | (rw [if_neg (by omega)]; done) | (rw [if_pos (by omega)]; done)
    try simp only [List.getElem_toArray, List.getElem_cons_zero, List.getElem_cons_succ, Act.put, List.setIfInBounds_toArray, List.set_cons_zero, List.set_cons_succ]
    refine wpAnyH_take (i := 5) (v := ?_) rfl (by kernel_rfl) (by kernel_rfl) (by kernel_rfl) (fun _ _ _ h => h) (Or.inl ⟨by rfl, ?_⟩) (by assumption) ?_
    rotate_left 1
    · intro w' hSw
      go_simp
      all_goals first | with_reducible rfl | (rw [if_neg (by omega)]; done) | (rw [if_pos (by omega)]; done)
    try simp only [List.getElem_toArray, List.getElem_cons_zero, List.getElem_cons_succ, Act.put, List.setIfInBounds_toArray, List.set_cons_zero, List.set_cons_succ]
    refine wpAnyH_take (i := 6) (v := ?_) rfl (by kernel_rfl) (by kernel_rfl) (by kernel_rfl) (fun _ _ _ h => h) (Or.inl ⟨by rfl, ?_⟩) (by assumption) ?_
    rotate_left 1
    · intro w' hSw
      obtain ⟨g0, g1⟩ := cells2b16 (Eab7.out.turn hSw (fun h => h))
      go_simp
      all_goals first | with_reducible rfl | (rw [if_neg (by omega)]; done) | (rw [if_pos (by omega)]; done)
    try simp only [List.getElem_toArray, List.getElem_cons_zero, List.getElem_cons_succ, Act.put, List.setIfInBounds_toArray, List.set_cons_zero, List.set_cons_succ]
    refine wpAnyH_take (i := 7) (v := ?_) rfl (by kernel_rfl) (by kernel_rfl) (by kernel_rfl) (fun _ _ _ h => h) (Or.inl ⟨by rfl, ?_⟩) (by assumption) ?_
    rotate_left 1
    · intro w' hSw
      obtain ⟨g0, g1⟩ := cells2b16 (Ebb7.out.turn hSw (fun h => h))
      go_simp
      all_goals first | with_reducible rfl | (rw [if_neg (by omega)]; done) | (rw [if_pos (by omega)]; done)
    try simp only [List.getElem_toArray, List.getElem_cons_zero, List.getElem_cons_succ, Act.put, List.setIfInBounds_toArray, List.set_cons_zero, List.set_cons_succ]
    refine wpAnyH_ready (rs := [8]) (by kernel_rfl) (by simp) ?_
    refine AllReadyH.cons rfl (fun K hK => ?_) AllReadyH.nil
    refine step_call_on 25 Try.f25 _ _ rfl Try.func25 (by kernel_rfl) (by kernel_rfl) _ _ ((refSame_16 _ _ _ _ _ _ _ _ _ _ _ _ _ _ _ (Eak7.out.still V22.out) (Eas7.out.still V22.out) (Ebk7.out.still V22.out) (Ebs7.out.still V22.out) Ean4.out.1 Ean4.out.2).mono fun e W' h => (⟨_, h.1, rfl, h.2⟩ : ∃ v, e = .returned v ∧ v = _ ∧ Turn (fun _ => False) _ W')) (by go_simp) (by rfl) ?_
    rintro v9 w23 ⟨rfl, ht9⟩
    have V23 := Lib.hid (V22.out.trans ht9)
    clear ht9
    refine hK.out _ _ V23.out (fun hHeld => ?_)
    clear hHeld hK K
    try simp only [List.getElem_toArray, List.getElem_cons_zero, List.getElem_cons_succ, Act.put, List.setIfInBounds_toArray, List.set_cons_zero, List.set_cons_succ]
    refine wpAnyH_take (i := 9) (v := ?_) rfl (by kernel_rfl) (by kernel_rfl) (by kernel_rfl) (fun _ _ _ h => h) (Or.inl ⟨by rfl, ?_⟩) (by assumption) ?_
    rotate_left 1
    · intro w' hSw
      go_simp
      all_goals first | with_reducible rfl | (rw [if_neg (by omega)]; done) | (rw [if_pos (by omega)]; done)
    try simp only [List.getElem_toArray, List.getElem_cons_zero, List.getElem_cons_succ, Act.put, List.setIfInBounds_toArray, List.set_cons_zero, List.set_cons_succ]
    refine wpAnyH_take (i := 10) (v := ?_) rfl (by kernel_rfl) (by kernel_rfl) (by kernel_rfl) (fun _ _ _ h => h) (Or.inl ⟨by rfl, ?_⟩) (by assumption) ?_
    rotate_left 1
    · intro w' hSw
      go_simp
      all_goals first | with_reducible rfl | (rw [if_neg (by omega)]; done) | (rw [if_pos (by omega)]; done)
    try simp only [List.getElem_toArray, List.getElem_cons_zero, List.getElem_cons_succ, Act.put, List.setIfInBounds_toArray, List.set_cons_zero, List.set_cons_succ]
    refine wpAnyH_take (i := 11) (v := ?_) rfl (by kernel_rfl) (by kernel_rfl) (by kernel_rfl) (fun _ _ _ h => h) (Or.inl ⟨by rfl, ?_⟩) (by assumption) ?_
    rotate_left 1
    · intro w' hSw
      go_simp
      all_goals first | with_reducible rfl | (rw [if_neg (by omega)]; done) | (rw [if_pos (by omega)]; done)
    try simp only [List.getElem_toArray, List.getElem_cons_zero, List.getElem_cons_succ, Act.put, List.setIfInBounds_toArray, List.set_cons_zero, List.set_cons_succ]
    refine wpAnyH_take (i := 12) (v := ?_) rfl (by kernel_rfl) (by kernel_rfl) (by kernel_rfl) (fun _ _ _ h => h) (Or.inl ⟨by rfl, ?_⟩) (by assumption) ?_
    rotate_left 1
    · intro w' hSw
      go_simp
      all_goals first | with_reducible rfl | (rw [if_neg (by omega)]; done) | (rw [if_pos (by omega)]; done)
    try simp only [List.getElem_toArray, List.getElem_cons_zero, List.getElem_cons_succ, Act.put, List.setIfInBounds_toArray, List.set_cons_zero, List.set_cons_succ]
    refine wpAnyH_take (i := 13) (v := ?_) rfl (by kernel_rfl) (by kernel_rfl) (by kernel_rfl) (fun _ _ _ h => h) (Or.inl ⟨by rfl, ?_⟩) (by assumption) ?_
    rotate_left 1
    · intro w' hSw
      go_simp
      all_goals first | with_reducible rfl | (rw [if_neg (by omega)]; done) | (rw [if_pos (by omega)]; done)
    try simp only [List.getElem_toArray, List.getElem_cons_zero, List.getElem_cons_succ, Act.put, List.setIfInBounds_toArray, List.set_cons_zero, List.set_cons_succ]
    refine wpAnyH_take (i := 14) (v := .bool false) rfl (by kernel_rfl) (by kernel_rfl) (by kernel_rfl) (fun _ _ _ h => h) (Or.inl ⟨by rfl, ?_⟩) (by assumption) ?_
    · intro w' hSw
      go_simp
      all_goals first | (simp; done) | with_reducible rfl | (rw [if_neg (by omega)]; done) | (rw [if_pos (by omega)]; done)
    try simp only [List.getElem_toArray, List.getElem_cons_zero, List.getElem_cons_succ, Act.put, List.setIfInBounds_toArray, List.set_cons_zero, List.set_cons_succ]
    refine wpAnyH_take (i := 15) (v := ?_) rfl (by kernel_rfl) (by kernel_rfl) (by kernel_rfl) (fun _ _ _ h => h) (Or.inl ⟨by rfl, ?_⟩) (by assumption) ?_
    rotate_left 1
    · intro w' hSw
      go_simp
      all_goals first | with_reducible rfl | (rw [if_neg (by omega)]; done) | (rw [if_pos (by omega)]; done)
    try simp only [List.getElem_toArray, List.getElem_cons_zero, List.getElem_cons_succ, Act.put, List.setIfInBounds_toArray, List.set_cons_zero, List.set_cons_succ]
    refine wpAnyH_take (i := 16) (v := ?_) rfl (by kernel_rfl) (by kernel_rfl) (by kernel_rfl) (fun _ _ _ h => h) (Or.inl ⟨by rfl, ?_⟩) (by assumption) ?_
    rotate_left 1
    · intro w' hSw
      go_simp
      all_goals first | with_reducible rfl | (rw [if_neg (by omega)]; done) | (rw [if_pos (by omega)]; done)
    try simp only [List.getElem_toArray, List.getElem_cons_zero, List.getElem_cons_succ, Act.put, List.setIfInBounds_toArray, List.set_cons_zero, List.set_cons_succ]
    refine wpAnyH_take (i := 17) (v := ?_) rfl (by kernel_rfl) (by kernel_rfl) (by kernel_rfl) (fun _ _ _ h => h) (Or.inl ⟨by rfl, ?_⟩) (by assumption) ?_
    rotate_left 1
    · intro w' hSw
      obtain ⟨g0, g1⟩ := cells2b16 (Ecb7.out.turn hSw (fun h => h))
      go_simp
      all_goals first | with_reducible rfl | (rw [if_neg (by omega)]; done) | (rw [if_pos (by omega)]; done)
    try simp only [List.getElem_toArray, List.getElem_cons_zero, List.getElem_cons_succ, Act.put, List.setIfInBounds_toArray, List.set_cons_zero, List.set_cons_succ]
    refine wpAnyH_take (i := 18) (v := ?_) rfl (by kernel_rfl) (by kernel_rfl) (by kernel_rfl) (fun _ _ _ h => h) (Or.inl ⟨by rfl, ?_⟩) (by assumption) ?_
    rotate_left 1
    · intro w' hSw
      obtain ⟨g0, g1⟩ := cells2b16 (Edb7.out.turn hSw (fun h => h))
      go_simp
      all_goals first | with_reducible rfl | (rw [if_neg (by omega)]; done) | (rw [if_pos (by omega)]; done)
    try simp only [List.getElem_toArray, List.getElem_cons_zero, List.getElem_cons_succ, Act.put, List.setIfInBounds_toArray, List.set_cons_zero, List.set_cons_succ]
    refine wpAnyH_ready (rs := [19]) (by kernel_rfl) (by simp) ?_
    refine AllReadyH.cons rfl (fun K hK => ?_) AllReadyH.nil
    refine step_call_on 25 Try.f25 _ _ rfl Try.func25 (by kernel_rfl) (by kernel_rfl) _ _ ((refSame_16 _ _ _ _ _ _ _ _ _ _ _ _ _ _ _ (Eck7.out.still V23.out) (Ecs7.out.still V23.out) (Edk7.out.still V23.out) (Eds7.out.still V23.out) Ecn6.out.1 Ecn6.out.2).mono fun e W' h => (⟨_, h.1, rfl, h.2⟩ : ∃ v, e = .returned v ∧ v = _ ∧ Turn (fun _ => False) _ W')) (by go_simp) (by rfl) ?_
    rintro v9 w24 ⟨rfl, ht9⟩
    have V24 := Lib.hid (V23.out.trans ht9)
    clear ht9
    refine hK.out _ _ V24.out (fun hHeld => ?_)
    clear hHeld hK K
    try simp only [List.getElem_toArray, List.getElem_cons_zero, List.getElem_cons_succ, Act.put, List.setIfInBounds_toArray, List.set_cons_zero, List.set_cons_succ]
    refine wpAnyH_take (i := 20) (v := ?_) rfl (by kernel_rfl) (by kernel_rfl) (by kernel_rfl) (fun _ _ _ h => h) (Or.inl ⟨by rfl, ?_⟩) (by assumption) ?_
    rotate_left 1
    · intro w' hSw
      go_simp
      all_goals first | with_reducible rfl | (rw [if_neg (by omega)]; done) | (rw [if_pos (by omega)]; done)
    try simp only [List.getElem_toArray, List.getElem_cons_zero, List.getElem_cons_succ, Act.put, List.setIfInBounds_toArray, List.set_cons_zero, List.set_cons_succ]
    refine wpAnyH_take (i := 21) (v := ?_) rfl (by kernel_rfl) (by kernel_rfl) (by kernel_rfl) (fun _ _ _ h => h) (Or.inl ⟨by rfl, ?_⟩) (by assumption) ?_
    rotate_left 1
    · intro w' hSw
      go_simp
      all_goals first | with_reducible rfl | (rw [if_neg (by omega)]; done) | (rw [if_pos (by omega)]; done)
    try simp only [List.getElem_toArray, List.getElem_cons_zero, List.getElem_cons_succ, Act.put, List.setIfInBounds_toArray, List.set_cons_zero, List.set_cons_succ]
    refine wpAnyH_take (i := 22) (v := ?_) rfl (by kernel_rfl) (by kernel_rfl) (by kernel_rfl) (fun _ _ _ h => h) (Or.inl ⟨by rfl, ?_⟩) (by assumption) ?_
    rotate_left 1
    · intro w' hSw
      go_simp
      all_goals first | with_reducible rfl | (rw [if_neg (by omega)]; done) | (rw [if_pos (by omega)]; done)
    try simp only [List.getElem_toArray, List.getElem_cons_zero, List.getElem_cons_succ, Act.put, List.setIfInBounds_toArray, List.set_cons_zero, List.set_cons_succ]
    refine wpAnyH_take (i := 23) (v := ?_) rfl (by kernel_rfl) (by kernel_rfl) (by kernel_rfl) (fun _ _ _ h => h) (Or.inl ⟨by rfl, ?_⟩) (by assumption) ?_
    rotate_left 1
    · intro w' hSw
      go_simp
      all_goals first | with_reducible rfl | (rw [if_neg (by omega)]; done) | (rw [if_pos (by omega)]; done)
    try simp only [List.getElem_toArray, List.getElem_cons_zero, List.getElem_cons_succ, Act.put, List.setIfInBounds_toArray, List.set_cons_zero, List.set_cons_succ]
    refine wpAnyH_take (i := 24) (v := ?_) rfl (by kernel_rfl) (by kernel_rfl) (by kernel_rfl) (fun _ _ _ h => h) (Or.inl ⟨by rfl, ?_⟩) (by assumption) ?_
    rotate_left 1
    · intro w' hSw
      go_simp
      all_goals first | with_reducible rfl | (rw [if_neg (by omega)]; done) | (rw [if_pos (by omega)]; done)
    try simp only [List.getElem_toArray, List.getElem_cons_zero, List.getElem_cons_succ, Act.put, List.setIfInBounds_toArray, List.set_cons_zero, List.set_cons_succ]
    refine wpAnyH_take (i := 25) (v := .bool false) rfl (by kernel_rfl) (by kernel_rfl) (by kernel_rfl) (fun _ _ _ h => h) (Or.inl ⟨by rfl, ?_⟩) (by assumption) ?_
    · intro w' hSw
      go_simp
      all_goals first | (simp; done) | with_reducible rfl | (rw [if_neg (by omega)]; done) | (rw [if_pos (by omega)]; done)
    try simp only [List.getElem_toArray, List.getElem_cons_zero, List.getElem_cons_succ, Act.put, List.setIfInBounds_toArray, List.set_cons_zero, List.set_cons_succ]
    refine wpAnyH_take (i := 26) (v := ?_) rfl (by kernel_rfl) (by kernel_rfl) (by kernel_rfl) (fun _ _ _ h => h) (Or.inl ⟨by rfl, ?_⟩) (by assumption) ?_
    rotate_left 1
    · intro w' hSw
      go_simp
      all_goals first | with_reducible rfl | (rw [if_neg (by omega)]; done) | (rw [if_pos (by omega)]; done)
    try simp only [List.getElem_toArray, List.getElem_cons_zero, List.getElem_cons_succ, Act.put, List.setIfInBounds_toArray, List.set_cons_zero, List.set_cons_succ]
    refine wpAnyH_done (by kernel_rfl) ?_ _
    refine NoPanic.normal ?_
    have X8 := Lib.hid (X7.out.turn V24.out (fun h => h))
    have B8 := Lib.hid (B7.out.turn V24.out (fun h => h))
    have K8 := Lib.hid (K7.out.still V24.out)
    have S8 := Lib.hid (S7.out.still V24.out)
    have Q8 := Lib.hid (Q7.out.still V24.out)
    have U8 := Lib.hid (U7.out.still V24.out)
    have T8 := Lib.hid (T7.out.trans V24.out)

    go_upto_region 10 with fail
    have V30 : Hid (Turn (fun _ => False) w24 w24.drew) := Lib.hid (Turn.refl _ _).drew
    have hq1 := wrap_of ((n1 : Int) + 1) (by omega) (by omega)
    have hq2 := wrap_of ((n2 : Int) + 1) (by omega) (by omega)
    refine wp_region_noPanic ?_
    refine wp_region_held_drew (S := (fun X => Turn (fun _ => False) w24 X)) (by kernel_rfl) V30.out (fun hHeld => ?_)
    clear hHeld
    refine wpAnyH_take (i := 0) (v := ?_) rfl (by kernel_rfl) (by kernel_rfl) (by kernel_rfl) (fun _ _ _ h => h) (Or.inl ⟨by rfl, ?_⟩) (by assumption) ?_
    rotate_left 1
    · intro w' hSw
      go_simp
      all_goals first | with_reducible rfl | (rw [if_neg (by omega)]; done) | (rw [if_pos (by omega)]; done)
    try simp only [List.getElem_toArray, List.getElem_cons_zero, List.getElem_cons_succ, Act.put, List.setIfInBounds_toArray, List.set_cons_zero, List.set_cons_succ]
    refine wpAnyH_take (i := 1) (v := ?_) rfl (by kernel_rfl) (by kernel_rfl) (by kernel_rfl) (fun _ _ _ h => h) (Or.inl ⟨by rfl, ?_⟩) (by assumption) ?_
    rotate_left 1
    · intro w' hSw
      obtain ⟨g0, g1⟩ := cells2b16 (X8.out.turn hSw (fun h => h))
      go_simp
      all_goals first | with_reducible rfl | (rw [if_neg (by omega)]; done) | (rw [if_pos (by omega)]; done)
    try simp only [List.getElem_toArray, List.getElem_cons_zero, List.getElem_cons_succ, Act.put, List.setIfInBounds_toArray, List.set_cons_zero, List.set_cons_succ]
    refine wpAnyH_take (i := 2) (v := ?_) rfl (by kernel_rfl) (by kernel_rfl) (by kernel_rfl) (fun _ _ _ h => h) (Or.inl ⟨by rfl, ?_⟩) (by assumption) ?_
    rotate_left 1
    · intro w' hSw
      go_simp
      all_goals first | with_reducible rfl | (rw [if_neg (by omega)]; done) | (rw [if_pos (by omega)]; done)
    try simp only [List.getElem_toArray, List.getElem_cons_zero, List.getElem_cons_succ, Act.put, List.setIfInBounds_toArray, List.set_cons_zero, List.set_cons_succ]
    refine wpAnyH_take (i := 3) (v := ?_) rfl (by kernel_rfl) (by kernel_rfl) (by kernel_rfl) (fun _ _ _ h => h) (Or.inl ⟨by rfl, ?_⟩) (by assumption) ?_
    rotate_left 1
    · intro w' hSw
      obtain ⟨g0, g1⟩ := cells2b16 (X8.out.turn hSw (fun h => h))
      go_simp
      all_goals first | with_reducible rfl | (rw [if_neg (by omega)]; done) | (rw [if_pos (by omega)]; done)
    try simp only [List.getElem_toArray, List.getElem_cons_zero, List.getElem_cons_succ, Act.put, List.setIfInBounds_toArray, List.set_cons_zero, List.set_cons_succ]
    refine wpAnyH_take (i := 4) (v := ?_) rfl (by kernel_rfl) (by kernel_rfl) (by kernel_rfl) (fun _ _ _ h => h) (Or.inl ⟨by rfl, ?_⟩) (by assumption) ?_
    rotate_left 1
    · intro w' hSw
      go_simp
      all_goals first | with_reducible rfl | (rw [if_neg (by omega)]; done) | (rw [if_pos (by omega)]; done)
    try simp only [List.getElem_toArray, List.getElem_cons_zero, List.getElem_cons_succ, Act.put, List.setIfInBounds_toArray, List.set_cons_zero, List.set_cons_succ]
    refine wpAnyH_take (i := 5) (v := ?_) rfl (by kernel_rfl) (by kernel_rfl) (by kernel_rfl) (fun _ _ _ h => h) (Or.inl ⟨by rfl, ?_⟩) (by assumption) ?_
    rotate_left 1
    · intro w' hSw
      go_simp
      all_goals first | with_reducible rfl | (rw [if_neg (by omega)]; done) | (rw [if_pos (by omega)]; done)
    try simp only [List.getElem_toArray, List.getElem_cons_zero, List.getElem_cons_succ, Act.put, List.setIfInBounds_toArray, List.set_cons_zero, List.set_cons_succ]
    refine wpAnyH_take (i := 6) (v := ?_) rfl (by kernel_rfl) (by kernel_rfl) (by kernel_rfl) (fun _ _ _ h => h) (Or.inl ⟨by rfl, ?_⟩) (by assumption) ?_
    rotate_left 1
    · intro w' hSw
      go_simp
      all_goals first | with_reducible rfl | (rw [if_neg (by omega)]; done) | (rw [if_pos (by omega)]; done)
    try simp only [List.getElem_toArray, List.getElem_cons_zero, List.getElem_cons_succ, Act.put, List.setIfInBounds_toArray, List.set_cons_zero, List.set_cons_succ]
    refine wpAnyH_take (i := 7) (v := ?_) rfl (by kernel_rfl) (by kernel_rfl) (by kernel_rfl) (fun _ _ _ h => h) (Or.inl ⟨by rfl, ?_⟩) (by assumption) ?_
    rotate_left 1
    · intro w' hSw
      go_simp
      all_goals first | with_reducible rfl | (rw [if_neg (by omega)]; done) | (rw [if_pos (by omega)]; done)
    try simp only [List.getElem_toArray, List.getElem_cons_zero, List.getElem_cons_succ, Act.put, List.setIfInBounds_toArray, List.set_cons_zero, List.set_cons_succ]
    refine wpAnyH_take (i := 8) (v := ?_) rfl (by kernel_rfl) (by kernel_rfl) (by kernel_rfl) (fun _ _ _ h => h) (Or.inl ⟨by rfl, ?_⟩) (by assumption) ?_
    rotate_left 1
    · intro w' hSw
      obtain ⟨g0, g1⟩ := cells2b16 (X8.out.turn hSw (fun h => h))
      go_simp
      all_goals first | with_reducible rfl | (rw [if_neg (by omega)]; done) | (rw [if_pos (by omega)]; done)
    try simp only [List.getElem_toArray, List.getElem_cons_zero, List.getElem_cons_succ, Act.put, List.setIfInBounds_toArray, List.set_cons_zero, List.set_cons_succ]
    refine wpAnyH_take (i := 9) (v := ?_) rfl (by kernel_rfl) (by kernel_rfl) (by kernel_rfl) (fun _ _ _ h => h) (Or.inl ⟨by rfl, ?_⟩) (by assumption) ?_
    rotate_left 1
    · intro w' hSw
      go_simp
      all_goals first | with_reducible rfl | (rw [if_neg (by omega)]; done) | (rw [if_pos (by omega)]; done)
    try simp only [List.getElem_toArray, List.getElem_cons_zero, List.getElem_cons_succ, Act.put, List.setIfInBounds_toArray, List.set_cons_zero, List.set_cons_succ]
    refine wpAnyH_take (i := 10) (v := ?_) rfl (by kernel_rfl) (by kernel_rfl) (by kernel_rfl) (fun _ _ _ h => h) (Or.inl ⟨by rfl, ?_⟩) (by assumption) ?_
    rotate_left 1
    · intro w' hSw
      obtain ⟨g0, g1⟩ := cells2b16 (X8.out.turn hSw (fun h => h))
      go_simp
      all_goals first | with_reducible rfl | (rw [if_neg (by omega)]; done) | (rw [if_pos (by omega)]; done)
    try simp only [List.getElem_toArray, List.getElem_cons_zero, List.getElem_cons_succ, Act.put, List.setIfInBounds_toArray, List.set_cons_zero, List.set_cons_succ]
    refine wpAnyH_take (i := 11) (v := ?_) rfl (by kernel_rfl) (by kernel_rfl) (by kernel_rfl) (fun _ _ _ h => h) (Or.inl ⟨by rfl, ?_⟩) (by assumption) ?_
    rotate_left 1
    · intro w' hSw
      go_simp
      all_goals first | with_reducible rfl | (rw [if_neg (by omega)]; done) | (rw [if_pos (by omega)]; done)
    try simp only [List.getElem_toArray, List.getElem_cons_zero, List.getElem_cons_succ, Act.put, List.setIfInBounds_toArray, List.set_cons_zero, List.set_cons_succ]
    refine wpAnyH_take (i := 12) (v := ?_) rfl (by kernel_rfl) (by kernel_rfl) (by kernel_rfl) (fun _ _ _ h => h) (Or.inl ⟨by rfl, ?_⟩) (by assumption) ?_
    rotate_left 1
    · intro w' hSw
      go_simp
      all_goals first | with_reducible rfl | (rw [if_neg (by omega)]; done) | (rw [if_pos (by omega)]; done)
    try simp only [List.getElem_toArray, List.getElem_cons_zero, List.getElem_cons_succ, Act.put, List.setIfInBounds_toArray, List.set_cons_zero, List.set_cons_succ]
    refine wpAnyH_take (i := 13) (v := ?_) rfl (by kernel_rfl) (by kernel_rfl) (by kernel_rfl) (fun _ _ _ h => h) (Or.inl ⟨by rfl, ?_⟩) (by assumption) ?_
    rotate_left 1
    · intro w' hSw
      go_simp
      all_goals first | with_reducible rfl | (rw [if_neg (by omega)]; done) | (rw [if_pos (by omega)]; done)
    try simp only [List.getElem_toArray, List.getElem_cons_zero, List.getElem_cons_succ, Act.put, List.setIfInBounds_toArray, List.set_cons_zero, List.set_cons_succ]
    refine wpAnyH_take (i := 14) (v := ?_) rfl (by kernel_rfl) (by kernel_rfl) (by kernel_rfl) (fun _ _ _ h => h) (Or.inl ⟨by rfl, ?_⟩) (by assumption) ?_
    rotate_left 1
    · intro w' hSw
      go_simp
      all_goals first | with_reducible rfl | (rw [if_neg (by omega)]; done) | (rw [if_pos (by omega)]; done)
    try simp only [List.getElem_toArray, List.getElem_cons_zero, List.getElem_cons_succ, Act.put, List.setIfInBounds_toArray, List.set_cons_zero, List.set_cons_succ]
    refine wpAnyH_take (i := 15) (v := ?_) rfl (by kernel_rfl) (by kernel_rfl) (by kernel_rfl) (fun _ _ _ h => h) (Or.inl ⟨by rfl, ?_⟩) (by assumption) ?_
    rotate_left 1
    · intro w' hSw
      go_simp
      all_goals first | with_reducible rfl | (rw [if_neg (by omega)]; done) | (rw [if_pos (by omega)]; done)
    try simp only [List.getElem_toArray, List.getElem_cons_zero, List.getElem_cons_succ, Act.put, List.setIfInBounds_toArray, List.set_cons_zero, List.set_cons_succ]
    refine wpAnyH_done (by kernel_rfl) ?_ _
    refine NoPanic.normal ?_

    have Q9 := Lib.hid (Q8.out.still V30.out)
    have U9 := Lib.hid (U8.out.still V30.out)
    have X9 := Lib.hid (X8.out.turn V30.out (fun h => h))
    have B9 := Lib.hid (B8.out.turn V30.out (fun h => h))
    have T9 := Lib.hid (T8.out.trans V30.out)
    have K9 := Lib.hid (K8.out.still V30.out)
    have S9 := Lib.hid (S8.out.still V30.out)
    obtain ⟨kb9, ko9, ek9, hck9⟩ := Q9.out.cells (by simp)
    obtain ⟨sb9, so9, es9, hcs9⟩ := U9.out.cells (by simp)
    injection ek9 with ek9
    injection ek9 with ek1 ek2
    injection es9 with es9
    injection es9 with es1 es2
    have HCK9 : Hid (∀ X, Turn (fun _ => False) w24.drew X → X.cell? ⟨kb, ko + n1, none⟩ = some (.string q16)) := Lib.hid (fun X hX => by rw [ek1, ek2]; exact hck9 X hX n1 q16 (by rw [← HN1.out, List.getElem?_append_right (Nat.le_refl _)]; simp))
    have HCS9 : Hid (∀ X, Turn (fun _ => False) w24.drew X → X.cell? ⟨sb, so + n2 * 2, none⟩ = some (.string q16) ∧ X.cell? ⟨sb, so + n2 * 2 + 1, none⟩ = some (.string e16)) := Lib.hid (fun X hX => by rw [es1, es2]; exact hcs9 X hX n2 ⟨q16, e16⟩ (by rw [← HN2.out, List.getElem?_append_right (Nat.le_refl _)]; simp))
    clear ek1 ek2 es1 es2 hck9 hcs9
    have HL9 := Lib.hid (lives_16)
    obtain ⟨g0, g1⟩ := cells2b16 X9.out
    obtain ⟨g2, g3⟩ := cells2b16 B9.out
    have hi1 : ((n1 : Int) + 1 - 1) = (n1 : Int) := by omega
    have hi2 : ((n2 : Int) + 1 - 1) = (n2 : Int) := by omega
    have hw1 := wrap_of (n1 : Int) (by omega) (by omega)
    have hw2 := wrap_of (n2 : Int) (by omega) (by omega)
    go_wp2_with (first
      | (go_at_call 17; refine (HL9.out _).mono ?_; rintro e w42 ⟨rfl, ht⟩; have T42 := Lib.hid (T9.out.trans (V41.out.trans ht)); clear ht)
      | (go_at_call 25; refine (refSame_16 _ _ _ _ _ _ _ _ _ _ _ _ _ _ _ K9.out S9.out (HK.out.still T9.out) (HS.out.still T9.out) (by omega) (by omega)).mono ?_; rintro e w41 ⟨rfl, ht⟩; have V41 := Lib.hid ht; have q0 := HCK9.out w41 ht; obtain ⟨q1, q2⟩ := HCS9.out w41 ht; clear ht g0 g1 g2 g3))
    go_ret
    exact ⟨by first | rfl | (simp; done), T42.out⟩

theorem readsGrow_walk (L : List ByteArray) (S : List Pq2) (A1 : Option Addr) (n1 c1 : Nat) (A2 : Option Addr) (n2 c2 : Nat) (fa fb : ByteArray) (w : World)
    (hk : Kx w (.slice A1 n1 c1) L) (hs : Px w (.slice A2 n2 c2) S) (_ : n1 ≤ c1) (hcap : n2 ≤ c2) (hz : (∀ k ∈ L, k.size ≤ 140737488351232) ∧ ∀ s ∈ S, s.k.size ≤ 140737488351232 ∧ s.v.size ≤ 140737488351232) (hza : fa.size ≤ 140737488351232) (hzb : fb.size ≤ 140737488351232) :
    Calls Try.prog 5 #[.agg #[.slice A1 n1 c1, .slice A2 n2 c2], .string fa, .string fb] w fun r w' => r = .returned (.bool true) ∧ Below w.heap.size w w' :=
  (readsGrow_of L S A1 n1 c1 A2 n2 c2 fa fb w hk hs hcap hz.1 hz.2 hza hzb).mono fun e w' ⟨he, ht⟩ => ⟨he, ht.below (Nat.le_refl _) (fun _ h => h.elim)⟩
end Go.Proofs.Ytjkfgbmlhglnfaa
