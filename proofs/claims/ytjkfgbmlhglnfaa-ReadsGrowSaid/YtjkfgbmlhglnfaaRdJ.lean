/- Layer 16: Span. -/
import Derived.Test.YtjkfgbmlhglnfaaRdI
namespace Go.Proofs.Ytjkfgbmlhglnfaa
open Go.RowKit Go.Shelf
set_option linter.unusedVariables false
set_option linter.unusedSimpArgs false
set_option maxRecDepth 100000
attribute [local go_sem] Oper.semAt_some

theorem rc_off16 {w X : World} {A : Option Addr} {xs cs : List Value} {g t : Nat} (h : Rc w A xs) (hx : ∀ u ∈ xs, ∃ s, u = .string s) (hb : Blk w g t cs) (hcs : ∀ u ∈ cs, ∀ s, u ≠ .string s) (ht : Turn (fun k => k = g) w X) : Rc X A xs := fun hp => by
  obtain ⟨b, o, e, hlt, hc⟩ := h hp
  refine ⟨b, o, e, Nat.lt_of_lt_of_le hlt ht.size, fun j u hj => ?_⟩
  have hcj := hc j u hj
  rw [World.cell?_of_block (w := w) (a := ⟨b, o + j, none⟩) (ht.block b hlt (fun e2 => ?_))]
  · exact hcj
  · subst e2
    rw [hb.cell] at hcj
    obtain ⟨s, rfl⟩ := hx u (List.mem_of_getElem? hj)
    exact hcs _ (List.mem_of_getElem? hcj) s rfl
theorem two_slices16 {A1 A2 : Option Addr} {n1 c1 n2 c2 : Nat} : ∀ u ∈ [Value.slice A1 n1 c1, Value.slice A2 n2 c2], ∀ s, u ≠ .string s := by
  intro u hu s e
  subst e
  simp at hu
theorem Kx.off16 {w X : World} {v : Value} {K : List ByteArray} {g t : Nat} {cs : List Value} (h : Kx w v K) (hb : Blk w g t cs) (hcs : ∀ u ∈ cs, ∀ s, u ≠ .string s) (ht : Turn (fun k => k = g) w X) : Kx X v K := by
  obtain ⟨A, c, e, hl, hr⟩ := h
  exact ⟨A, c, e, hl, rc_off16 hr (fun u hu => by obtain ⟨s, _, rfl⟩ := List.mem_map.1 hu; exact ⟨s, rfl⟩) hb hcs ht⟩
theorem Px.off16c {w X : World} {v : Value} {S : List Pq2} {g t : Nat} {cs : List Value} (h : Px w v S) (hb : Blk w g t cs) (hcs : ∀ u ∈ cs, ∀ s, u ≠ .string s) (ht : Turn (fun k => k = g) w X) : Px X v S := by
  obtain ⟨A, c, e, hl, hr⟩ := h
  refine ⟨A, c, e, hl, rc_off16 hr (fun u hu => ?_) hb hcs ht⟩
  obtain ⟨p, _, hx⟩ := List.mem_flatMap.1 hu
  simp [pc2] at hx
  rcases hx with rfl | rfl
  · exact ⟨_, rfl⟩
  · exact ⟨_, rfl⟩
theorem Px.low16 {w : World} {A : Option Addr} {n c : Nat} {S : List Pq2} (h : Px w (.slice A n c) S) : 0 < S.length → ∀ a, A = some a → a.block < w.heap.size := by
  obtain ⟨A', c', e, _, hr⟩ := h
  injection e with e1 _ _
  subst e1
  intro hp a e
  obtain ⟨b, o, e2, hb, _⟩ := hr (by rw [flat_len pc2_len]; omega)
  rw [e2] at e
  injection e with e
  subst e
  exact hb
open Classical in
/-- What Span tells. -/
noncomputable def span16 (K : List ByteArray) (S : List Pq2) (s : Pq2) : List ByteArray × List Pq2 × Int :=
  if rgb16 K S then (if some16 s then (if 64 < (tog16 S s).length then ([], [], 9) else (K.filter (fun k => !spd16 (tog16 S s) k), tog16 S s, 0)) else (K, S, 0)) else ([], [], 4)
set_option maxHeartbeats 8000000 in
theorem span_16 (L : List ByteArray) (S : List Pq2) (fa fb : ByteArray) (A1 : Option Addr) (n1 c1 : Nat) (A2 : Option Addr) (n2 c2 : Nat) (w : World) (hk : Kx w (.slice A1 n1 c1) L) (hs : Px w (.slice A2 n2 c2) S) (hcap : n2 ≤ c2) :
    Calls Try.prog 21 #[.agg #[.slice A1 n1 c1, .slice A2 n2 c2], .string fa, .string fb] w (RP16 w (span16 L S ⟨fa, fb⟩)) := by
  have hn1 : L.length = n1 := by obtain ⟨_, _, e, _⟩ := id hk; injection e with _ e _; exact e.symm
  have hn2 : S.length = n2 := by obtain ⟨_, _, e, _⟩ := id hs; injection e with _ e _; exact e.symm
  have HCH := Lib.hid (fun W (hW : Turn (fun _ => False) w W) => check_16 L S A1 n1 c1 A2 n2 c2 W (hk.still hW) (hs.still hW))
  have HAL := Lib.hid (fun (h1 : n1 ≤ 64) (h2 : n2 ≤ 64) W (hW : Turn (fun _ => False) w W) => alike_16 L S A1 n1 c1 A2 n2 c2 W (hk.still hW) (hs.still hW) h1 h2)
  have HTO := Lib.hid (fun (h2 : n2 ≤ 64) W (hW : Turn (fun _ => False) w W) => together_16 S ⟨fa, fb⟩ A2 n2 c2 W (hs.still hW) h2 hcap)
  have HCL := Lib.hid (fun (h1 : n1 ≤ 64) W (hW : Turn (fun _ => False) w W) => cloneK_16 L A1 n1 c1 W (hk.still hW) (by omega))
  have HSO := Lib.hid (fun W => some_16 ⟨fa, fb⟩ W)
  obtain ⟨W1, hW1⟩ : ∃ W, w.alloc (.cells #[.slice A1 n1 c1, .slice A2 n2 c2] 46) = W := ⟨_, rfl⟩
  obtain ⟨W2, hW2⟩ : ∃ W, W1.alloc (.cells #[.slice none 0 0, .slice none 0 0] 46) = W := ⟨_, rfl⟩
  have T2 : Hid (Turn (fun _ => False) w W2) := Lib.hid (hW2 ▸ (hW1 ▸ (Turn.refl (fun _ => False) w).alloc _ : Turn (fun _ => False) w W1).alloc _)
  have B1 : Hid (Blk W2 w.heap.size 46 [.slice A1 n1 c1, .slice A2 n2 c2]) := Lib.hid (hW2 ▸ (show Blk W1 w.heap.size 46 [.slice A1 n1 c1, .slice A2 n2 c2] from hW1 ▸ Blk.new _ _ _).alloc _)
  have B2 : Hid (Blk W2 W1.heap.size 46 [.slice none 0 0, .slice none 0 0]) := Lib.hid (hW2 ▸ Blk.new _ _ _)
  have hlt0 : w.heap.size < W1.heap.size := by rw [← hW1]; simp
  have HB2L := Lib.hid B2.out.lt
  obtain ⟨x0, x1⟩ := cells2b16 B1.out
  obtain ⟨r0, r1⟩ := cells2b16 B2.out
  obtain ⟨f0, f1⟩ := free2_16 B2.out
  have HN1 := Lib.hid hn1
  have HN2 := Lib.hid hn2
  clear hk hs hn1 hn2
  unfold span16
  cases hr : rgb16 L S with
  | false =>
    rw [hr] at HCH
    simp only [Bool.false_eq_true, if_false] at HCH ⊢
    clear hr
    go_enter Try.func21, Try.ntmps21
    go_wp2_with (go_at_call 23; refine (HCH.out _ T2.out).mono ?_; rintro e w3 ⟨rfl, ht⟩; have T3 := Lib.hid (T2.out.trans ht); have V3 := Lib.hid ht; obtain ⟨x0, x1⟩ := cells2b16 (B1.out.turn ht (fun h => h)); obtain ⟨r0, r1⟩ := cells2b16 (B2.out.turn ht (fun h => h)); obtain ⟨f0, f1⟩ := free2_16 (B2.out.turn ht (fun h => h)); have S3 := Lib.hid (Blk.new w3 59 [.string fa, .string fb]); obtain ⟨s0, s1⟩ := cells2b16 S3.out; clear ht)
    obtain ⟨hb9, hs9⟩ := put2_16 (B2.out.turn V3.out (fun h => h)) (.slice none 0 0) (.slice none 0 0)
    obtain ⟨e0, e1⟩ := cells2b16 hb9
    refine bodyPost_ret (v := .tuple #[.agg #[.slice none 0 0, .slice none 0 0], .int .i64 4]) (by simp [results, Try.results21, go_sem, e0, e1]) rfl ⟨none, 0, 0, none, 0, 0, rfl, kx_nil16 _, px_nil16 _, Nat.le_refl _, T3.out.trans_new hs9 (fun k hk e => by omega)⟩
  | true =>
    have HRG := Lib.hid (rgb_iff.1 hr)
    have HLE : Hid (n1 ≤ 64 ∧ n2 ≤ 64) := Lib.hid (by have := HRG.out.1; have := HN1.out; have := HN2.out; omega)
    rw [hr] at HCH
    simp only [if_true] at HCH ⊢
    clear hr
    cases hc : some16 ⟨fa, fb⟩ with
    | false =>
      rw [hc] at HSO
      simp only [Bool.false_eq_true, if_false]
      clear hc
      go_enter Try.func21, Try.ntmps21
      go_wp2_with (first
        | (go_at_call 53; refine (HAL.out HLE.out.1 HLE.out.2 _ T4.out).mono ?_; rintro e w5 ⟨vk, A3, c3, rfl, ho, ht⟩; have T5 := Lib.hid (T4.out.trans ht); have V5 := Lib.hid (V4.out.trans ht); obtain ⟨AK, cK, rfl⟩ := own_slice_ ho.1; have O5 := Lib.hid ho; obtain ⟨x0, x1⟩ := cells2b16 (B1.out.turn (V4.out.trans ht) (fun h => h)); obtain ⟨r0, r1⟩ := cells2b16 (B2.out.turn (V4.out.trans ht) (fun h => h)); obtain ⟨f0, f1⟩ := free2_16 (B2.out.turn (V4.out.trans ht) (fun h => h)); clear ht ho)
        | (go_at_call 59; refine (HSO.out _).mono ?_; rintro e w4 ⟨rfl, ht⟩; have T4 := Lib.hid ((T3.out.alloc (.cells #[.string fa, .string fb] 59)).trans ht); have V4 := Lib.hid ((V3.out.alloc (.cells #[.string fa, .string fb] 59)).trans ht); obtain ⟨x0, x1⟩ := cells2b16 (B1.out.turn ((V3.out.alloc (.cells #[.string fa, .string fb] 59)).trans ht) (fun h => h)); obtain ⟨r0, r1⟩ := cells2b16 (B2.out.turn ((V3.out.alloc (.cells #[.string fa, .string fb] 59)).trans ht) (fun h => h)); obtain ⟨f0, f1⟩ := free2_16 (B2.out.turn ((V3.out.alloc (.cells #[.string fa, .string fb] 59)).trans ht) (fun h => h)); obtain ⟨s0, s1⟩ := cells2b16 (S3.out.turn ht (fun h => h)); have S4 := Lib.hid (S3.out.turn ht (fun h => h)); clear ht)
        | (go_at_call 23; refine (HCH.out _ T2.out).mono ?_; rintro e w3 ⟨rfl, ht⟩; have T3 := Lib.hid (T2.out.trans ht); have V3 := Lib.hid ht; obtain ⟨x0, x1⟩ := cells2b16 (B1.out.turn ht (fun h => h)); obtain ⟨r0, r1⟩ := cells2b16 (B2.out.turn ht (fun h => h)); obtain ⟨f0, f1⟩ := free2_16 (B2.out.turn ht (fun h => h)); have S3 := Lib.hid (Blk.new w3 59 [.string fa, .string fb]); obtain ⟨s0, s1⟩ := cells2b16 S3.out; clear ht))
      have hv4 := V4.out.size
      have hb2 := HB2L.out
      obtain ⟨hb9, hs9⟩ := put2_16 (B2.out.turn V5.out (fun h => h)) (.slice AK n1 cK) (.slice A3 n2 c3)
      obtain ⟨e0, e1⟩ := cells2b16 hb9
      refine bodyPost_ret (v := .tuple #[.agg #[.slice AK n1 cK, .slice A3 n2 c3], .int .i64 0]) (by simp [results, Try.results21, go_sem, e0, e1]) rfl ⟨AK, n1, cK, A3, n2, c3, rfl, ?_, ?_, O5.out.2.2.2, T5.out.trans_new hs9 (fun k hk e => by omega)⟩
      · have ho := own_tn16 O5.out.1 hs9 (fun k hk e => by have := (own_ge9 O5.out.1 k hk).1; omega)
        exact ⟨AK, cK, by rw [HN1.out], by rw [HN1.out]; have := HLE.out; omega, rc_own ho⟩
      · exact O5.out.2.1.off16 (fun hp a e => by have := (O5.out.2.2.1 hp a e).1; omega) hs9
    | true =>
      rw [hc] at HSO
      simp only [if_true]
      have hc9 := hc
      clear hc hc9
      by_cases h64 : 64 < (tog16 S ⟨fa, fb⟩).length
      · rw [if_pos h64]
        have H64 := Lib.hid h64
        clear h64
        go_enter Try.func21, Try.ntmps21
        go_wp2_with (first
          | (go_at_call 60; refine (HTO.out HLE.out.2 _ T4.out).mono ?_; rintro e w5 ⟨A9, n9, c9, rfl, hp, hf, ht⟩; have T5 := Lib.hid (T4.out.trans ht); have V5 := Lib.hid (V4.out.trans ht); have P5 := Lib.hid hp; have HCP := Lib.hid hf.2; have hn9 : n9 = (tog16 S ⟨fa, fb⟩).length := (by obtain ⟨_, _, e, _⟩ := hp; injection e); have HN9 := Lib.hid hn9; have hbig : (64 : Int) < (n9 : Int) := (by rw [hn9]; have := H64.out; omega); obtain ⟨x0, x1⟩ := cells2b16 (B1.out.turn (V4.out.trans ht) (fun h => h)); obtain ⟨r0, r1⟩ := cells2b16 (B2.out.turn (V4.out.trans ht) (fun h => h)); obtain ⟨f0, f1⟩ := free2_16 (B2.out.turn (V4.out.trans ht) (fun h => h)); clear ht hp hf hn9)
          | (go_at_call 59; refine (HSO.out _).mono ?_; rintro e w4 ⟨rfl, ht⟩; have T4 := Lib.hid ((T3.out.alloc (.cells #[.string fa, .string fb] 59)).trans ht); have V4 := Lib.hid ((V3.out.alloc (.cells #[.string fa, .string fb] 59)).trans ht); obtain ⟨x0, x1⟩ := cells2b16 (B1.out.turn ((V3.out.alloc (.cells #[.string fa, .string fb] 59)).trans ht) (fun h => h)); obtain ⟨r0, r1⟩ := cells2b16 (B2.out.turn ((V3.out.alloc (.cells #[.string fa, .string fb] 59)).trans ht) (fun h => h)); obtain ⟨f0, f1⟩ := free2_16 (B2.out.turn ((V3.out.alloc (.cells #[.string fa, .string fb] 59)).trans ht) (fun h => h)); obtain ⟨s0, s1⟩ := cells2b16 (S3.out.turn ht (fun h => h)); have S4 := Lib.hid (S3.out.turn ht (fun h => h)); clear ht)
          | (go_at_call 23; refine (HCH.out _ T2.out).mono ?_; rintro e w3 ⟨rfl, ht⟩; have T3 := Lib.hid (T2.out.trans ht); have V3 := Lib.hid ht; obtain ⟨x0, x1⟩ := cells2b16 (B1.out.turn ht (fun h => h)); obtain ⟨r0, r1⟩ := cells2b16 (B2.out.turn ht (fun h => h)); obtain ⟨f0, f1⟩ := free2_16 (B2.out.turn ht (fun h => h)); have S3 := Lib.hid (Blk.new w3 59 [.string fa, .string fb]); obtain ⟨s0, s1⟩ := cells2b16 S3.out; clear ht))
        obtain ⟨hb9, hs9⟩ := put2_16 (B2.out.turn V5.out (fun h => h)) (.slice none 0 0) (.slice none 0 0)
        obtain ⟨e0, e1⟩ := cells2b16 hb9
        refine bodyPost_ret (v := .tuple #[.agg #[.slice none 0 0, .slice none 0 0], .int .i64 9]) (by simp [results, Try.results21, go_sem, e0, e1]) rfl ⟨none, 0, 0, none, 0, 0, rfl, kx_nil16 _, px_nil16 _, Nat.le_refl _, T5.out.trans_new hs9 (fun k hk e => by omega)⟩
      · rw [if_neg h64]
        have H64 := Lib.hid h64
        clear h64
        go_enter Try.func21, Try.ntmps21
        go_wp2_with (first
          | (go_at_call 61; refine (delete_16 L (tog16 S ⟨fa, fb⟩) w6.heap.size A9 n9 c9 (.slice AK n1 cK) w7 (kr_of16 HN1.out (own_mono9 (own_still_ O6.out T7.out) (Nat.zero_le _))) (by rw [HN1.out]; have := HLE.out; omega) (P6.out.still T7.out) L7.out (fun g hg => ⟨by have := (HGE.out g hg).2; omega, fun hp a e => by have h1 := P5.out.low16 hp a e; have h2 := (HGE.out g hg).1; omega⟩)).mono ?_; rintro e w8 ⟨A8, n8, c8, rfl, hk8, ht8⟩; have K8 := Lib.hid hk8; have P8 := Lib.hid ((P6.out.still T7.out).tn16 ht8 (fun hp a e h => by have h1 := P5.out.low16 hp a e; have h2 := (HGE.out _ h).1; omega)); have hsz := V5.out.size; have R8 := Lib.hid ((B2.out.turn (V6.out.trans T7.out) (fun h => h)).turn ht8 (fun e => by have h1 := (HGE.out _ e).1; have h2 := HB2L.out; omega)); obtain ⟨r0, r1⟩ := cells2b16 R8.out; obtain ⟨f0, f1⟩ := free2_16 R8.out; have T8 := Lib.hid ((T6.out.trans T7.out).trans_new ht8 (fun k hk e => by have h1 := (HGE.out _ e).1; have h2 := T5.out.size; omega)); clear hk8 ht8)
          | (go_at_call 63; refine (within_16 A9 n9 c9 _).mono ?_; rintro e w7 ⟨rfl, hw7⟩; have T7 : Hid (Turn (fun _ => False) w6 w7) := Lib.hid (hw7 ▸ (Turn.refl _ _).alloc _); have L7 : Hid (Blk w7 w6.heap.size 44 [.slice A9 n9 c9]) := Lib.hid (hw7 ▸ Blk.new _ _ _); have h67 : Hid (w6.heap.size < w7.heap.size) := Lib.hid L7.out.lt; clear hw7)
          | (go_at_call 62; refine (HCL.out HLE.out.1 _ T5.out).mono ?_; rintro e w6 ⟨vk, rfl, ho, ht⟩; obtain ⟨AK, cK, rfl⟩ := own_slice_ ho; have T6 := Lib.hid (T5.out.trans ht); have V6 := Lib.hid (V5.out.trans ht); have O6 := Lib.hid ho; have P6 := Lib.hid (P5.out.still ht); have D6 := Lib.hid ht; have hge6 : ∀ k, (Value.slice AK n1 cK).ownBlock = some k → w5.heap.size ≤ k ∧ k < w6.heap.size := fun k hk => own_ge9 ho k hk; have HGE := Lib.hid hge6; clear ht ho hge6)
          | (go_at_call 60; refine (HTO.out HLE.out.2 _ T4.out).mono ?_; rintro e w5 ⟨A9, n9, c9, rfl, hp, hf, ht⟩; have T5 := Lib.hid (T4.out.trans ht); have V5 := Lib.hid (V4.out.trans ht); have P5 := Lib.hid hp; have HCP := Lib.hid hf.2; have hn9 : n9 = (tog16 S ⟨fa, fb⟩).length := (by obtain ⟨_, _, e, _⟩ := hp; injection e); have HN9 := Lib.hid hn9; have hbig : ¬ (64 : Int) < (n9 : Int) := (by rw [hn9]; have := H64.out; omega); obtain ⟨x0, x1⟩ := cells2b16 (B1.out.turn (V4.out.trans ht) (fun h => h)); obtain ⟨r0, r1⟩ := cells2b16 (B2.out.turn (V4.out.trans ht) (fun h => h)); obtain ⟨f0, f1⟩ := free2_16 (B2.out.turn (V4.out.trans ht) (fun h => h)); clear ht hp hf hn9)
          | (go_at_call 59; refine (HSO.out _).mono ?_; rintro e w4 ⟨rfl, ht⟩; have T4 := Lib.hid ((T3.out.alloc (.cells #[.string fa, .string fb] 59)).trans ht); have V4 := Lib.hid ((V3.out.alloc (.cells #[.string fa, .string fb] 59)).trans ht); obtain ⟨x0, x1⟩ := cells2b16 (B1.out.turn ((V3.out.alloc (.cells #[.string fa, .string fb] 59)).trans ht) (fun h => h)); obtain ⟨r0, r1⟩ := cells2b16 (B2.out.turn ((V3.out.alloc (.cells #[.string fa, .string fb] 59)).trans ht) (fun h => h)); obtain ⟨f0, f1⟩ := free2_16 (B2.out.turn ((V3.out.alloc (.cells #[.string fa, .string fb] 59)).trans ht) (fun h => h)); obtain ⟨s0, s1⟩ := cells2b16 (S3.out.turn ht (fun h => h)); have S4 := Lib.hid (S3.out.turn ht (fun h => h)); clear ht)
          | (go_at_call 23; refine (HCH.out _ T2.out).mono ?_; rintro e w3 ⟨rfl, ht⟩; have T3 := Lib.hid (T2.out.trans ht); have V3 := Lib.hid ht; obtain ⟨x0, x1⟩ := cells2b16 (B1.out.turn ht (fun h => h)); obtain ⟨r0, r1⟩ := cells2b16 (B2.out.turn ht (fun h => h)); obtain ⟨f0, f1⟩ := free2_16 (B2.out.turn ht (fun h => h)); have S3 := Lib.hid (Blk.new w3 59 [.string fa, .string fb]); obtain ⟨s0, s1⟩ := cells2b16 S3.out; clear ht))
        have hb2 := HB2L.out
        obtain ⟨hb9, hs9⟩ := put2_16 R8.out (.slice A8 n8 c8) (.slice A9 n9 c9)
        obtain ⟨e0, e1⟩ := cells2b16 hb9
        refine bodyPost_ret (v := .tuple #[.agg #[.slice A8 n8 c8, .slice A9 n9 c9], .int .i64 0]) (by simp [results, Try.results21, go_sem, e0, e1]) rfl ⟨A8, n8, c8, A9, n9, c9, rfl, K8.out.off16 R8.out two_slices16 hs9, P8.out.off16c R8.out two_slices16 hs9, HCP.out, T8.out.trans_new hs9 (fun k hk e => by omega)⟩
end Go.Proofs.Ytjkfgbmlhglnfaa
