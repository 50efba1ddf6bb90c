/- SpaceLoads: its walk. -/
import Derived.Test.YtobddfpdijmgiaaSpBq
import Derived.Test.YtobddfpdijmgiaaFrameY
namespace Go.Proofs.Ytobddfpdijmgiaa
open Go.RowKit Go.Shelf
set_option linter.unusedVariables false
set_option linter.unusedSimpArgs false
set_option maxRecDepth 100000
attribute [local go_sem] Oper.semAt_some

/-- Versions, counted. -/
def sN (M : List (Itm × Value)) : Nat := (M.map (fun p => p.1.vs.length)).sum
theorem sN_next {M : List (Itm × Value)} {i : Nat} {p : Itm × Value} (h : M[i]? = some p) : sN (M.take (i + 1)) = sN (M.take i) + p.1.vs.length := by
  unfold sN
  rw [take_next h, List.map_append, List.sum_append]
  simp
theorem sN_mem : ∀ {M : List (Itm × Value)} {p : Itm × Value}, p ∈ M → p.1.vs.length ≤ sN M
  | [], _, h => by cases h
  | x :: M, p, h => by
    unfold sN
    rw [List.map_cons, List.sum_cons]
    rcases List.mem_cons.1 h with rfl | h
    · omega
    · have := sN_mem h
      unfold sN at this
      omega
set_option maxHeartbeats 16000000 in
theorem spaceLoads_of (A : Option Addr) (n c : Nat) (M : List (Itm × Value)) (last mark : Int) (key : ByteArray) (t : Int) (w : World) (hA : Ix14 w (.slice A n c) M) (hz : ∀ p ∈ M, p.1.vs.length ≤ 140737488351232) (hk : key.size ≤ 140737488351232) :
    Calls Try.prog 3 #[.slice A n c, .int .i64 last, .int .i64 mark, .string key, .int .i64 t] w fun r w' => r = .returned (.bool true) ∧ Turn (fun _ => False) w w' := by
  obtain ⟨hix, hkc⟩ := hA
  have HIX := Lib.hid hix
  have HKC := Lib.hid hkc
  have HZ := Lib.hid hz
  have HCV : Hid (∀ p ∈ M, Cv p.2) := Lib.hid (fun p hp A n c e => (hkc p hp).2 A n c e)
  obtain ⟨A', c', e, hl, hr, hiw⟩ := hix
  injection e with e1 e2 e3
  subst e1 e3
  have HN : Hid (M.length = n) := Lib.hid e2.symm
  have HR := Lib.hid hr
  have HIW := Lib.hid hiw
  rw [← e2] at hl
  clear hkc hz e2 hr hiw
  go_enter Try.func3, Try.ntmps3
  go_wp2_with fail
  go_loopw [11, 12] (fun v11 v12 wr => ∃ i k : Nat, i ≤ n ∧ v12 = .int .i64 i ∧ v11 = .int .i64 k ∧ Hid (k = n + sN (M.take i)) ∧ k ≤ 9223372036854775807 ∧ wr = w) (fun _ v12 _ => n - (intOf v12).toNat)
  case atStart => exact ⟨0, n, Nat.zero_le _, rfl, rfl, Lib.hid (by simp [sN]), hl, rfl⟩
  case round =>
    obtain ⟨i, k, hi, rfl, rfl, HK, hk63, hwr⟩ := hrel
    obtain ⟨wx, rfl⟩ : ∃ W, W = wr := ⟨_, rfl⟩
    subst hwr
    by_cases hlt : i < n
    · have hl1 : (i : Int) < (n : Int) := by omega
      have hl0 : (0 : Int) ≤ (i : Int) := by omega
      have hq := wrap_of ((i : Int) + 1) (by omega) (by omega)
      by_cases hc : k < 2000
      · have hc1 : (k : Int) < 2000 := by omega
        obtain ⟨p, hp⟩ : ∃ p, M[i]? = some p := ⟨_, List.getElem?_eq_getElem (by rw [HN.out]; exact hlt)⟩
        have HNX := Lib.hid (sN_next hp)
        obtain ⟨b, o, rfl, _, hcc⟩ := HR.out.item (by rw [HN.out]; omega)
        obtain ⟨c0, c1⟩ := hcc wx (Turn.refl _ _) i p hp
        have hv := HIW.out p (List.mem_of_getElem? hp)
        have hvl := HZ.out p (List.mem_of_getElem? hp)
        obtain ⟨⟨xk, xvs⟩, xv⟩ := p
        simp only at hv hvl HNX
        obtain ⟨AV, cV, e⟩ := hv.len
        subst e
        obtain ⟨mp, hmp⟩ : ∃ m, xvs.length = m := ⟨_, rfl⟩
        rw [hmp] at HNX hvl c0 c1
        have hq2 := wrap_of ((k : Int) + (mp : Int)) (by omega) (by omega)
        clear hp hcc hv hmp
        go_wp2_with fail
        go_roundw
        case rel => exact ⟨i + 1, k + mp, by omega, by simp [hq], by simp [hq2], Lib.hid (by rw [HNX.out, HK.out]; omega), by omega, by first | rfl | trivial⟩
        case measure => simp [intOf, hq]; omega
      · have hc1 : ¬ (k : Int) < 2000 := by omega
        have hc2 : (2000 : Int) ≤ (k : Int) := by omega
        go_wp2_with (go_at_call 14; refine (lives_14 _).mono ?_; rintro e w9 ⟨rfl, t9⟩)
        go_ret
        exact ⟨rfl, t9⟩
    · obtain rfl : i = n := by omega
      have HK2 : Hid (k = i + sN M) := Lib.hid (by rw [HK.out, ← HN.out, List.take_length])
      clear HK
      by_cases hc : k < 2000
      · have hc1 : ¬ (2000 : Int) ≤ (k : Int) := by omega
        have HBD : Hid (M.length ≤ 100000 ∧ ∀ p ∈ M, p.1.vs.length ≤ 100000 ∧ p.1.k.size ≤ maxLen) := Lib.hid ⟨by rw [HN.out]; have := HK2.out; omega, fun p hp => ⟨by have := sN_mem hp; have := HK2.out; omega, (HKC.out p hp).1⟩⟩
        have HB2 : Hid (M.length ≤ 2000 ∧ ∀ p ∈ M, p.1.vs.length ≤ 2000) := Lib.hid ⟨by rw [HN.out]; have := HK2.out; omega, fun p hp => by have := sN_mem hp; have := HK2.out; omega⟩
        have HRF := Lib.hid (fun X (hX : Turn (fun _ => False) wx X) => refLoad14 M _ last mark X (HIX.out.still hX))
        clear hc
        by_cases hrg : mark < 0 ∨ last < mark ∨ 1152921504606846976 < last
        · have HLD := Lib.hid (load_14b (.slice A i c) last mark wx hrg)
          have HRF2 : Hid (∀ X, Turn (fun _ => False) wx X → Calls Try.prog 16 #[.slice A i c, .int .i64 last, .int .i64 mark] X fun e w' => e = .returned (.tuple #[.agg #[.slice none 0 0, .int .i64 0, .int .i64 0], .int .i64 4]) ∧ Turn (fun _ => False) X w') := Lib.hid (fun X hX => (HRF.out X hX).mono fun e w' ⟨h1, h2⟩ => by
            rcases h1 with ⟨h1, _⟩ | ⟨_, h1⟩
            · omega
            · exact ⟨h1, h2⟩)
          clear HRF hrg
          go_wp2_with (first
            | (go_at_call 15; refine HLD.out.mono ?_; rintro e w2 ⟨rfl, ht2⟩; have T2 := Lib.hid ht2; clear ht2)
            | (go_at_call 16; refine (HRF2.out _ T2.out).mono ?_; rintro e w3 ⟨rfl, ht3⟩; have T3 := Lib.hid (T2.out.trans ht3); clear ht3)
            | (go_at_call 14; refine (lives_14 _).mono ?_; rintro e w9 ⟨rfl, t9⟩))
          go_ret
          exact ⟨rfl, (T3.out.alloc _).trans t9⟩
        · have HLD := Lib.hid (load_14 M _ last mark wx HIX.out HBD.out HCV.out hrg)
          cases hok : okI (M.map (fun p : Itm × Value => p.1)) last with
          | false =>
            have HLD2 : Hid (Calls Try.prog 15 #[.slice A i c, .int .i64 last, .int .i64 mark] wx fun e w' => e = .returned (.tuple #[.pointer none, .int .i64 4]) ∧ Turn (fun _ => False) wx w') := Lib.hid (HLD.out.mono fun e w' ⟨h1, h2⟩ => by
              rcases h1 with ⟨h1, _⟩ | ⟨_, h1⟩
              · rw [hok] at h1; cases h1
              · exact ⟨h1, h2⟩)
            have HRF2 : Hid (∀ X, Turn (fun _ => False) wx X → Calls Try.prog 16 #[.slice A i c, .int .i64 last, .int .i64 mark] X fun e w' => e = .returned (.tuple #[.agg #[.slice none 0 0, .int .i64 0, .int .i64 0], .int .i64 4]) ∧ Turn (fun _ => False) X w') := Lib.hid (fun X hX => (HRF.out X hX).mono fun e w' ⟨h1, h2⟩ => by
              rcases h1 with ⟨_, h1, _⟩ | ⟨_, h1⟩
              · rw [hok] at h1; cases h1
              · exact ⟨h1, h2⟩)
            clear HRF hrg HLD hok
            go_wp2_with (first
              | (go_at_call 15; refine HLD2.out.mono ?_; rintro e w2 ⟨rfl, ht2⟩; have T2 := Lib.hid ht2; clear ht2)
              | (go_at_call 16; refine (HRF2.out _ T2.out).mono ?_; rintro e w3 ⟨rfl, ht3⟩; have T3 := Lib.hid (T2.out.trans ht3); clear ht3)
              | (go_at_call 14; refine (lives_14 _).mono ?_; rintro e w9 ⟨rfl, t9⟩))
            go_ret
            exact ⟨rfl, (T3.out.alloc _).trans t9⟩
          | true =>
            have HLD2 : Hid (Calls Try.prog 15 #[.slice A i c, .int .i64 last, .int .i64 mark] wx fun e w' => ∃ q vk g M', e = .returned (.tuple #[.pointer (some ⟨q, 0, none⟩), .int .i64 0]) ∧ St14 w' q vk g M' last mark (.slice A i c) M 2000 ∧ Turn (fun _ => False) wx w') := Lib.hid (HLD.out.mono fun e w' ⟨h1, h2⟩ => by
              rcases h1 with ⟨_, q, vk, g, M', e1, hsp, he, hfr⟩ | ⟨h1, _⟩
              · have hwf : Wf (M'.map (fun p : Itm × Value => p.1)) last := by
                  rw [he]
                  refine ⟨?_, fun x hx => ?_⟩
                  · have := okI_ris hok
                    unfold keysM at this
                    rw [List.map_map]
                    exact this
                  · obtain ⟨p, hp, rfl⟩ := List.mem_map.1 hx
                    exact okI_fit hok p hp
                have hbm : Bm 2000 M' := bm_of he (bi_of (okI_bm hok HB2.out.1 HB2.out.2))
                exact ⟨q, vk, g, M', e1, ⟨hsp, HIX.out.still h2, he.symm, hwf, ⟨by omega, by omega, by omega⟩, fun k hk => HIX.out.ap (hfr k hk), hbm⟩, h2⟩
              · rw [hok] at h1; cases h1)
            have HRF2 : Hid (∀ X, Turn (fun _ => False) wx X → Calls Try.prog 16 #[.slice A i c, .int .i64 last, .int .i64 mark] X fun e w' => e = .returned (.tuple #[.agg #[.slice A i c, .int .i64 last, .int .i64 mark], .int .i64 0]) ∧ Turn (fun _ => False) X w') := Lib.hid (fun X hX => (HRF.out X hX).mono fun e w' ⟨h1, h2⟩ => by
              rcases h1 with ⟨_, _, h1⟩ | ⟨h1, _⟩
              · exact ⟨h1, h2⟩
              · exact absurd ⟨⟨by omega, by omega, by omega, by omega⟩, hok⟩ h1)
            have HAS := Lib.hid (fun X q vk g M' (h : St14 X q vk g M' last mark (.slice A i c) M 2000) => asked_14 key key (⟨#[]⟩ : ByteArray) t 3 h (by decide) hk hk (by decide))
            clear HRF hrg HLD hok
            go_wp2_with (first
              | (go_at_call 15; refine HLD2.out.mono ?_; rintro e w2 ⟨q, vk, g, M', rfl, hst, ht2⟩; have T2 := Lib.hid ht2; have S2 := Lib.hid hst; clear ht2 hst)
              | (go_at_call 16; refine (HRF2.out _ T2.out).mono ?_; rintro e w3 ⟨rfl, ht3⟩; have T3 := Lib.hid (T2.out.trans ht3); have S3 := Lib.hid (S2.out.still ht3); clear ht3)
              | (go_at_call 17; refine (alike_14 (S3.out.still ((Turn.refl _ _).alloc _)) (by decide)).mono ?_; rintro e w4 ⟨rfl, ht4⟩; have S4 := Lib.hid ((S3.out.still ((Turn.refl _ _).alloc _)).still ht4); have T4 := Lib.hid ((T3.out.alloc _).trans ht4); have B4 := Lib.hid (((Blk.new w3 32 [.slice A i c, .int .i64 last, .int .i64 mark]) : Blk (w3.alloc (.cells #[.slice A i c, .int .i64 last, .int .i64 mark] 32)) _ _ _).turn ht4 (fun h => h)); obtain ⟨z0, z1, z2, _, _, _⟩ := cells3 B4.out; clear ht4)
              | (go_at_call 18; refine (HAS.out _ _ _ _ _ S4.out).mono ?_; rintro e w5 ⟨rfl, ht5⟩; have T5 := Lib.hid (T4.out.trans ht5); clear ht5)
              | (go_at_call 14; refine (lives_14 _).mono ?_; rintro e w9 ⟨rfl, t9⟩))
            go_ret
            exact ⟨rfl, T5.out.trans t9⟩
      · have hc1 : (2000 : Int) ≤ (k : Int) := by omega
        go_wp2_with (go_at_call 14; refine (lives_14 _).mono ?_; rintro e w9 ⟨rfl, t9⟩)
        go_ret
        exact ⟨rfl, t9⟩
theorem spaceLoads_walk (v : Value) (M : List (Itm × Value)) (last mark : Int) (key : ByteArray) (t : Int) (w : World) (hA : Ix14 w v M) (hz : ∀ p ∈ M, p.1.vs.length ≤ 140737488351232) (h1 : (Lit.int .i64 last).wf = true) (h2 : (Lit.int .i64 mark).wf = true) (hk : key.size ≤ 140737488351232) (h3 : (Lit.int .i64 t).wf = true) :
    Calls Try.prog 3 #[v, .int .i64 last, .int .i64 mark, .string key, .int .i64 t] w fun r w' => r = .returned (.bool true) ∧ Below w.heap.size w w' := by
  obtain ⟨A, c, rfl, _⟩ := id hA.1
  exact (spaceLoads_of A _ c M last mark key t w hA hz hk).mono fun e w' ⟨he, ht⟩ => ⟨he, ht.below (Nat.le_refl _) (fun _ h => h.elim)⟩
end Go.Proofs.Ytobddfpdijmgiaa
