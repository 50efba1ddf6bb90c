/- ReadsMet: its walk. -/
import Derived.Test.YtjkfgbmlhglnfaaRdN
import Derived.Test.YtjkfgbmlhglnfaaRdP
import Derived.Test.YtjkfgbmlhglnfaaSpAe
import Derived.Test.YtjkfgbmlhglnfaaSpBq
import Derived.Test.YtjkfgbmlhglnfaaFrameX
namespace Go.Proofs.Ytjkfgbmlhglnfaa
open Go.RowKit Go.Shelf
set_option linter.unusedVariables false
set_option linter.unusedSimpArgs false
set_option maxRecDepth 100000
attribute [local go_sem] Oper.semAt_some

theorem chn_short : ∀ {L : List Vn}, chn L = true → ∀ y, L[0]? = some y → (L.length : Int) ≤ y.t
  | [], _, y, h => by simp at h
  | x :: L, h, y, hy => by
    obtain ⟨h1, h2, h3⟩ := (chn_cons x L).1 h
    simp only [List.getElem?_cons_zero, Option.some.injEq] at hy
    subst hy
    unfold rt at h1
    have h1 := (of_decide_eq_true h1).1.1
    cases L with
    | nil => simpa using h1
    | cons z L =>
      have g1 := h2 z rfl
      have g2 := chn_short h3 z rfl
      simp only [List.length_cons] at g2 ⊢
      omega
theorem okI_short {M : List (Itm × Value)} {last : Int} {N : Nat} (h : okI (M.map (fun p : Itm × Value => p.1)) last = true) (hl : last ≤ (N : Int)) : ∀ p ∈ M, p.1.vs.length ≤ N := fun p hp => by
  obtain ⟨_, h2, h3, h4⟩ := (fit_iff _ _).1 (okI_fit h p hp)
  cases hv : p.1.vs with
  | nil => simp
  | cons y l =>
    have g1 := h4 y (by rw [hv]; rfl)
    have g2 := chn_short h3 y (by rw [hv]; rfl)
    rw [hv] at g2
    omega
theorem Rc.up {w W : World} {A : Option Addr} {cs : List Value} (h : Rc w A cs) (ht : Turn (fun k => w.heap.size ≤ k) w W) : Rc W A cs := h.turn ht (fun hp ad e hs => by
  obtain ⟨b, o, e2, hb, _⟩ := h hp
  rw [e2] at e
  cases e
  simp only at hs
  omega)
theorem Kx.up {w W : World} {v : Value} {K : List ByteArray} (h : Kx w v K) (ht : Turn (fun k => w.heap.size ≤ k) w W) : Kx W v K := by
  obtain ⟨A, c, e, hl, hr⟩ := h
  exact ⟨A, c, e, hl, hr.up ht⟩
theorem Px.up {w W : World} {v : Value} {S : List Pq2} (h : Px w v S) (ht : Turn (fun k => w.heap.size ≤ k) w W) : Px W v S := by
  obtain ⟨A, c, e, hl, hr⟩ := h
  exact ⟨A, c, e, hl, hr.up ht⟩
theorem Cx.up {w W : World} {v : Value} {C : List Cg} (h : Cx w v C) (ht : Turn (fun k => w.heap.size ≤ k) w W) : Cx W v C := by
  obtain ⟨A, c, e, hl, hr⟩ := h
  exact ⟨A, c, e, hl, hr.up ht⟩
theorem Turn.toUp {w W X : World} (h : Turn (fun _ => False) W X) : Turn (fun k => w.heap.size < k) W X := h.mono (fun _ _ h => h.elim)
theorem Turn.lax {w W X : World} (h : Turn (fun k => w.heap.size < k) W X) : Turn (fun k => w.heap.size ≤ k) W X := h.mono (fun _ _ h => Nat.le_of_lt h)
theorem Cx.block {w : World} {v : Value} {C : List Cg} (h : Cx w v C) (hp : 0 < C.length) : ∀ b, vb v = some b → b < w.heap.size := fun b hb => by
  obtain ⟨A, c, rfl, hl, hr⟩ := h
  obtain ⟨b2, o, rfl, hlt, _⟩ := hr (by rw [flat_len cc_len]; omega)
  cases hb
  exact hlt
theorem wf_ok {M : List (Itm × Value)} {last : Int} (h : okI (M.map (fun p : Itm × Value => p.1)) last = true) : Wf (M.map (fun p : Itm × Value => p.1)) last := by
  refine ⟨?_, fun x hx => ?_⟩
  · have := okI_ris h
    unfold keysM at this
    rw [List.map_map]
    exact this
  · obtain ⟨p, hp, rfl⟩ := List.mem_map.1 hx
    exact okI_fit h p hp
theorem Bm.upto {M : List (Itm × Value)} {N L : Nat} (h : Bm N M) (hk : N ≤ L) : Bm L M := ⟨Nat.le_trans h.1 hk, fun p hp => ⟨Nat.le_trans (h.2 p hp).1 hk, (h.2 p hp).2⟩⟩
theorem bm_alike {M M2 : List (Itm × Value)} {N : Nat} (e : M2.map (fun p : Itm × Value => p.1) = M.map (fun p : Itm × Value => p.1)) (h : Bm N M) : Bm N M2 := by
  have hl : M2.length = M.length := by have := congrArg List.length e; simpa using this
  refine ⟨by rw [hl]; exact h.1, fun p hp => ?_⟩
  have hm : p.1 ∈ M.map (fun p : Itm × Value => p.1) := by rw [← e]; exact List.mem_map.2 ⟨p, hp, rfl⟩
  obtain ⟨r, hr, er⟩ := List.mem_map.1 hm
  rw [← er]
  exact h.2 r hr
theorem bm_aplR {M M2 : List (Itm × Value)} {N : Nat} {t : Int} {C : List Cg} (e : M2.map (fun p : Itm × Value => p.1) = aplR (M.map (fun p : Itm × Value => p.1)) t C) (h : Bm N M) (hw : Wf (aplR (M.map (fun p : Itm × Value => p.1)) t C) t) : Bm (N + C.length + 1) M2 := by
  obtain ⟨h1, h2⟩ := aplR_len (I0 := M.map (fun p : Itm × Value => p.1)) (N := N) t (fun p hp => by obtain ⟨r, hr, rfl⟩ := List.mem_map.1 hp; exact (h.2 r hr).1) _ C rfl
  rw [← e] at h1 h2 hw
  have g := h.1
  simp only [List.length_map] at h1
  refine ⟨by omega, fun p hp => ?_⟩
  have hm : p.1 ∈ M2.map (fun p : Itm × Value => p.1) := List.mem_map.2 ⟨p, hp, rfl⟩
  exact ⟨by have := h2 _ hm; omega, ((fit_iff _ _).1 (hw.2 _ hm)).1⟩
set_option maxHeartbeats 16000000 in
theorem readsMet_of (K : List ByteArray) (S : List Pq2) (A1 : Option Addr) (n1 c1 : Nat) (A2 : Option Addr) (n2 c2 : Nat) (A3 : Option Addr) (n c3 : Nat) (M : List (Itm × Value)) (last t : Int) (A4 : Option Addr) (m c4 : Nat) (C : List Cg) (w : World)
    (hk : Kx w (.slice A1 n1 c1) K) (hs : Px w (.slice A2 n2 c2) S) (hz : ∀ k ∈ K, k.size ≤ 140737488351232) (hA : Ix14 w (.slice A3 n c3) M) (hz3 : ∀ p ∈ M, p.1.vs.length ≤ 140737488351232) (hc : Cx w (.slice A4 m c4) C) :
    Calls Try.prog 7 #[.agg #[.slice A1 n1 c1, .slice A2 n2 c2], .slice A3 n c3, .int .i64 last, .int .i64 t, .slice A4 m c4] w fun r w' => r = .returned (.bool true) ∧ Turn (fun k => w.heap.size < k) w w' := by
  have hn : M.length = n := by
    obtain ⟨A, c, e, _⟩ := hA.1
    injection e with e1 e2 e3
    exact e2.symm
  have hmC : C.length = m := by
    obtain ⟨A, c, e, _⟩ := hc
    injection e with e1 e2 e3
    exact e2.symm
  have HFW := Lib.hid (fun W => few_16 A1 n1 c1 A2 n2 c2 W)
  have HCH := Lib.hid (fun W (hW : Turn (fun _ => False) w W) => check_16 K S A1 n1 c1 A2 n2 c2 W (hk.still hW) (hs.still hW))
  have HST := Lib.hid (fun P f W (hW : Turn (fun k => w.heap.size < k) w W) (hq : Snq W (.pointer P) t f) => stale_16 K S A1 n1 c1 A2 n2 c2 P t f W (hk.up hW.lax) (hs.up hW.lax) hq hz)
  have HHI := Lib.hid (fun W (hW : Turn (fun k => w.heap.size < k) w W) => hit_16 K S C _ A1 n1 c1 A2 n2 c2 W (hk.up hW.lax) (hs.up hW.lax) (hc.up hW.lax))
  have HRF := Lib.hid (fun X (hX : Turn (fun _ => False) w X) => refLoad14 M _ last 0 X (hA.1.still hX))
  have HIX := Lib.hid hA
  have HZ3 := Lib.hid hz3
  have HCX := Lib.hid hc
  have HN := Lib.hid hn
  have HMC := Lib.hid hmC
  obtain ⟨W1, hW1⟩ : ∃ W, w.alloc (.cells #[.slice A1 n1 c1, .slice A2 n2 c2] 46) = W := ⟨_, rfl⟩
  have T1 : Hid (Turn (fun _ => False) w W1) := Lib.hid (hW1 ▸ (Turn.refl _ _).alloc _)
  have B1 : Hid (Blk W1 w.heap.size 46 [.slice A1 n1 c1, .slice A2 n2 c2]) := Lib.hid (hW1 ▸ Blk.new _ _ _)
  obtain ⟨x0, x1⟩ := cells2b16 B1.out
  clear hk hs hz hA hz3 hc hn hmC
  cases hfw : decide (n1 ≤ 100 ∧ n2 ≤ 100) with
  | false =>
    rw [hfw] at HFW
    clear hfw
    go_enter Try.func7, Try.ntmps7
    go_wp2_with (first
      | (go_at_call 17; refine (lives_16 _).mono ?_; rintro e w9 ⟨rfl, t9⟩; have T9 := Lib.hid (T2.out.trans t9); clear t9)
      | (go_at_call 16; refine (HFW.out _).mono ?_; rintro e w2 ⟨rfl, t2⟩; have T2 := Lib.hid (T1.out.trans t2); obtain ⟨y0, y1⟩ := cells2b16 (B1.out.turn t2 (fun h => h)); have B2 := Lib.hid (B1.out.turn t2 (fun h => h)); clear t2 x0 x1))
    go_ret
    exact ⟨rfl, T9.out.toUp⟩
  | true =>
    rw [hfw] at HFW
    clear hfw
    by_cases hn100 : (100 : Int) < (n : Int)
    · have hn100b : decide ((100 : Int) < (n : Int)) = true := by simpa using hn100
      go_enter Try.func7, Try.ntmps7
      go_wp2_with (first
        | (go_at_call 17; refine (lives_16 _).mono ?_; rintro e w9 ⟨rfl, t9⟩; have T9 := Lib.hid (T2.out.trans t9); clear t9)
        | (go_at_call 16; refine (HFW.out _).mono ?_; rintro e w2 ⟨rfl, t2⟩; have T2 := Lib.hid (T1.out.trans t2); obtain ⟨y0, y1⟩ := cells2b16 (B1.out.turn t2 (fun h => h)); have B2 := Lib.hid (B1.out.turn t2 (fun h => h)); clear t2 x0 x1))
      go_ret
      exact ⟨rfl, T9.out.toUp⟩
    by_cases hm100 : (100 : Int) < (m : Int)
    · have hm100b : decide ((100 : Int) < (m : Int)) = true := by simpa using hm100
      go_enter Try.func7, Try.ntmps7
      go_wp2_with (first
        | (go_at_call 17; refine (lives_16 _).mono ?_; rintro e w9 ⟨rfl, t9⟩; have T9 := Lib.hid (T2.out.trans t9); clear t9)
        | (go_at_call 16; refine (HFW.out _).mono ?_; rintro e w2 ⟨rfl, t2⟩; have T2 := Lib.hid (T1.out.trans t2); obtain ⟨y0, y1⟩ := cells2b16 (B1.out.turn t2 (fun h => h)); have B2 := Lib.hid (B1.out.turn t2 (fun h => h)); clear t2 x0 x1))
      go_ret
      exact ⟨rfl, T9.out.toUp⟩
    cases hr : rgb16 K S with
    | false =>
      rw [hr] at HCH
      simp only [Bool.false_eq_true, if_false] at HCH
      clear hr
      go_enter Try.func7, Try.ntmps7
      go_wp2_with (first
        | (go_at_call 17; refine (lives_16 _).mono ?_; rintro e w9 ⟨rfl, t9⟩; have T9 := Lib.hid (T3.out.trans t9); clear t9)
        | (go_at_call 23; refine (HCH.out _ T2.out).mono ?_; rintro e w3 ⟨rfl, t3⟩; have T3 := Lib.hid (T2.out.trans t3); obtain ⟨z0, z1⟩ := cells2b16 (B2.out.turn t3 (fun h => h)); have B3 := Lib.hid (B2.out.turn t3 (fun h => h)); clear t3 y0 y1)
        | (go_at_call 16; refine (HFW.out _).mono ?_; rintro e w2 ⟨rfl, t2⟩; have T2 := Lib.hid (T1.out.trans t2); obtain ⟨y0, y1⟩ := cells2b16 (B1.out.turn t2 (fun h => h)); have B2 := Lib.hid (B1.out.turn t2 (fun h => h)); clear t2 x0 x1))
      go_ret
      exact ⟨rfl, T9.out.toUp⟩
    | true =>
      have HRG := Lib.hid (rgb_iff.1 hr)
      rw [hr] at HCH HST
      simp only [if_true, Bool.true_and] at HCH HST
      have HHE : Hid (hit16 K S C = C.any (fun c => cov16 K S c.k)) := Lib.hid (by unfold hit16; rw [hr]; simp)
      clear hr
      by_cases hl : (1000000 : Int) < last
      · have hlb : decide ((1000000 : Int) < last) = true := by simpa using hl
        go_enter Try.func7, Try.ntmps7
        go_wp2_with (first
          | (go_at_call 17; refine (lives_16 _).mono ?_; rintro e w9 ⟨rfl, t9⟩; have T9 := Lib.hid (T3.out.trans t9); clear t9)
          | (go_at_call 23; refine (HCH.out _ T2.out).mono ?_; rintro e w3 ⟨rfl, t3⟩; have T3 := Lib.hid (T2.out.trans t3); obtain ⟨z0, z1⟩ := cells2b16 (B2.out.turn t3 (fun h => h)); have B3 := Lib.hid (B2.out.turn t3 (fun h => h)); clear t3 y0 y1)
          | (go_at_call 16; refine (HFW.out _).mono ?_; rintro e w2 ⟨rfl, t2⟩; have T2 := Lib.hid (T1.out.trans t2); obtain ⟨y0, y1⟩ := cells2b16 (B1.out.turn t2 (fun h => h)); have B2 := Lib.hid (B1.out.turn t2 (fun h => h)); clear t2 x0 x1))
        go_ret
        exact ⟨rfl, T9.out.toUp⟩
      by_cases hok : (0 ≤ last ∧ last ≤ 1152921504606846976 ∧ (0 : Int) ≤ 0 ∧ 0 ≤ last) ∧ okI (M.map (fun p : Itm × Value => p.1)) last = true
      · have HR2 : Hid (∀ X, Turn (fun _ => False) w X → Calls Try.prog 31 #[.slice A3 n c3, .int .i64 last, .int .i64 0] X fun e w' => e = .returned (.tuple #[.agg #[.slice A3 n c3, .int .i64 last, .int .i64 0], .int .i64 0]) ∧ Turn (fun _ => False) X w') := Lib.hid (fun X hX => (HRF.out X hX).mono fun e w' ⟨h1, h2⟩ => by
          rcases h1 with ⟨_, _, h1⟩ | ⟨h1, _⟩
          · exact ⟨h1, h2⟩
          · exact absurd hok h1)
        clear HRF
        by_cases htl : last < t
        · have htlb : decide (last < t) = true := by simpa using htl
          clear hok
          go_enter Try.func7, Try.ntmps7
          go_wp2_with (first
            | (go_at_call 17; refine (lives_16 _).mono ?_; rintro e w9 ⟨rfl, t9⟩; have T9 := Lib.hid (T4.out.trans t9); clear t9)
            | (go_at_call 31; refine (HR2.out _ T3.out).mono ?_; rintro e w4 ⟨rfl, t4⟩; have T4 := Lib.hid ((T3.out.trans t4).alloc (.cells #[.slice A3 n c3, .int .i64 last, .int .i64 0] 66)); have B4 := Lib.hid ((B3.out.turn t4 (fun h => h)).alloc (.cells #[.slice A3 n c3, .int .i64 last, .int .i64 0] 66)); obtain ⟨u0, u1⟩ := cells2b16 B4.out; clear t4 z0 z1)
            | (go_at_call 23; refine (HCH.out _ T2.out).mono ?_; rintro e w3 ⟨rfl, t3⟩; have T3 := Lib.hid (T2.out.trans t3); obtain ⟨z0, z1⟩ := cells2b16 (B2.out.turn t3 (fun h => h)); have B3 := Lib.hid (B2.out.turn t3 (fun h => h)); clear t3 y0 y1)
            | (go_at_call 16; refine (HFW.out _).mono ?_; rintro e w2 ⟨rfl, t2⟩; have T2 := Lib.hid (T1.out.trans t2); obtain ⟨y0, y1⟩ := cells2b16 (B1.out.turn t2 (fun h => h)); have B2 := Lib.hid (B1.out.turn t2 (fun h => h)); clear t2 x0 x1))
          go_ret
          exact ⟨rfl, T9.out.toUp⟩
        · have hlast : 0 ≤ last ∧ last ≤ 1152921504606846976 := ⟨hok.1.1, hok.1.2.1⟩
          have hokI := hok.2
          have hb3 : M.length ≤ 10000000 ∧ ∀ p ∈ M, p.1.vs.length ≤ 1000000000000000 ∧ p.1.k.size ≤ maxLen := ⟨by rw [HN.out]; omega, fun p hp => ⟨by have := HZ3.out p hp; omega, (HIX.out.2 p hp).1⟩⟩
          have hshort := okI_short (N := 1000000) hokI (by omega)
          have HBM : Hid (Bm 1000000 M) := Lib.hid (okI_bm hokI (by rw [HN.out]; omega) hshort)
          have HWF : Hid (Wf (M.map (fun p : Itm × Value => p.1)) last) := Lib.hid (wf_ok hokI)
          have HLD : Hid (∀ X, Turn (fun _ => False) w X → Calls Try.prog 32 #[.slice A3 n c3, .int .i64 last, .int .i64 0] X fun e w' => ∃ q vk g M', e = .returned (.tuple #[.pointer (some ⟨q, 0, none⟩), .int .i64 0]) ∧ (Sp w' q vk g M' last 0 ∧ M'.map (fun p : Itm × Value => p.1) = M.map (fun p : Itm × Value => p.1) ∧ (∀ k, Sw q vk g k → X.heap.size ≤ k)) ∧ Turn (fun _ => False) X w') := Lib.hid (fun X hX => (load_14 M _ last 0 X (HIX.out.1.still hX) hb3 (fun _ p hp => by have := hshort p hp; omega) (fun p hp A n c e => (HIX.out.2 p hp).2 A n c e) (by omega)).mono fun e w' ⟨h1, h2⟩ => by
            rcases h1 with ⟨_, q, vk, g, M', e1, hsp, he, hfr⟩ | ⟨h1, _⟩
            · exact ⟨q, vk, g, M', e1, ⟨hsp, he, fun k hk => hfr k hk⟩, h2⟩
            · rw [hokI] at h1; cases h1)
          have hq1 := wrap_of (last + 1) (by omega) (by omega)
          clear hok hb3 hshort hokI
          have HT2 := Lib.hid htl
          have HRK : Hid (risK K) := Lib.hid HRG.out.2.2.1
          have HW0 := Lib.hid (fun hm => aplR_wf HWF.out hlast.1 (show last < last + 1 by omega) (by omega) _ C rfl ((mch_iff C).1 hm).1)
          have HAP0 := Lib.hid (fun hm => stI_apl HWF.out hlast.1 (show last < last + 1 by omega) (by omega) (show t ≤ last from Int.not_lt.1 HT2.out) K S _ C rfl ((mch_iff C).1 hm).1)
          obtain ⟨b0, hb0⟩ : ∃ b, stI16 K S (M.map (fun p : Itm × Value => p.1)) t = b := ⟨_, rfl⟩
          obtain ⟨h0, hh0⟩ : ∃ b, C.any (fun c => cov16 K S c.k) = b := ⟨_, rfl⟩
          rw [hb0, hh0] at HAP0
          rw [HHE.out, hh0] at HHI
          have HS5 : Hid (∀ W q vk g M', Sp W q vk g M' last 0 → M'.map (fun p : Itm × Value => p.1) = M.map (fun p : Itm × Value => p.1) → Turn (fun k => w.heap.size < k) w W → Calls Try.prog 30 #[.agg #[.slice A1 n1 c1, .slice A2 n2 c2], .pointer (some ⟨q, 0, none⟩), .int .i64 t] W fun e w' => e = .returned (.bool b0) ∧ Turn (fun _ => False) W w') := Lib.hid (fun W q vk g M' hsp he hW => by
            have h := HST.out _ _ W hW (snq_sp hsp ((bm_alike he HBM.out).upto (by omega)) t)
            rw [stl_items HRK.out, he, hb0] at h
            exact h)
          have HS6 : Hid (mch C = true → ∀ W q vk g M', Sp W q vk g M' (last + 1) 0 → M'.map (fun p : Itm × Value => p.1) = aplR (M.map (fun p : Itm × Value => p.1)) (last + 1) C → Turn (fun k => w.heap.size < k) w W → Calls Try.prog 30 #[.agg #[.slice A1 n1 c1, .slice A2 n2 c2], .pointer (some ⟨q, 0, none⟩), .int .i64 t] W fun e w' => e = .returned (.bool (b0 || h0)) ∧ Turn (fun _ => False) W w') := Lib.hid (fun hm W q vk g M' hsp he hW => by
            have h := HST.out _ _ W hW (snq_sp hsp ((bm_aplR he HBM.out (HW0.out hm).1).upto (by have := HMC.out; omega)) t)
            rw [stl_items HRK.out, he, HAP0.out hm] at h
            exact h)
          have HAB : Hid (mch C = false → ∀ W q vk g M', Sp W q vk g M' last 0 → Turn (fun _ => False) w W → Calls Try.prog 34 #[.pointer (some ⟨q, 0, none⟩), .int .i64 (last + 1), .slice A4 m c4] W fun e w' => e = .returned (.int .i64 2) ∧ Turn (fun _ => False) W w') := Lib.hid (fun hm W q vk g M' hsp hW => by
            have h := apply_14b C _ (last + 1) hsp (HCX.out.still hW) (by have := HMC.out; omega) (.inr (.inr hm))
            rw [if_neg (by omega)] at h
            exact h)
          have HAG : Hid (mch C = true → ∀ W q vk g M', Sp W q vk g M' last 0 → M'.map (fun p : Itm × Value => p.1) = M.map (fun p : Itm × Value => p.1) → (∀ k, Sw q vk g k → w.heap.size < k) → Turn (fun _ => False) w W → Calls Try.prog 34 #[.pointer (some ⟨q, 0, none⟩), .int .i64 (last + 1), .slice A4 m c4] W fun e w' => e = .returned (.int .i64 0) ∧ ∃ vk' M2, (Sp w' q vk' g M2 (last + 1) 0 ∧ M2.map (fun p : Itm × Value => p.1) = aplR (M.map (fun p : Itm × Value => p.1)) (last + 1) C) ∧ Turn (fun k => w.heap.size < k) W w') := Lib.hid (fun hm W q vk g M' hsp he hfr hW => by
            have hbx := HCX.out.block
            refine (apply_14 C _ (last + 1) hsp (HCX.out.still hW) (fun hp b hb hs => by have := hbx hp b hb; have := hfr b hs; omega) ((bm_alike he HBM.out).upto (by omega)) (by have := HMC.out; omega) (by rw [he]; exact HWF.out) hlast.1 (by omega) (by omega) hm).mono ?_
            rintro e w' ⟨h1, vk', M2, h2, h3, _, h5⟩
            exact ⟨h1, vk', M2, ⟨h2, by rw [h3, he]⟩, h5.mono (fun k _ hk => hfr k hk)⟩)
          clear hlast hb0 hh0 HAP0 HW0
          cases hm : mch C with
          | false =>
            have HAB2 := Lib.hid (HAB.out hm)
            clear HAB HAG HS6 hm
            cases b0
            all_goals
              go_enter Try.func7, Try.ntmps7
              go_wp2_with (first
                | (go_at_call 17; refine (lives_16 _).mono ?_; rintro e w9 ⟨rfl, t9⟩; have T9 := Lib.hid (T8.out.trans t9); clear t9)
                | (go_at_call 30; refine (HS5.out _ _ _ _ _ SP7.out SP5.out.2.1 T7.out.toUp).mono ?_; rintro e w8 ⟨rfl, t8⟩; have T8 := Lib.hid (T7.out.trans t8); clear t8)
                | (go_at_call 34; refine (HAB2.out _ _ _ _ _ SP6.out T6.out).mono ?_; rintro e w7 ⟨rfl, t7⟩; have T7 := Lib.hid (T6.out.trans t7); have SP7 := Lib.hid (SP6.out.still t7); have B7 := Lib.hid (B6.out.turn t7 (fun h => h)); obtain ⟨r0, r1⟩ := cells2b16 B7.out; clear t7)
                | (go_at_call 30; refine (HS5.out _ _ _ _ _ SP5.out.1 SP5.out.2.1 T5.out.toUp).mono ?_; rintro e w6 ⟨rfl, t6⟩; have T6 := Lib.hid (T5.out.trans t6); have SP6 := Lib.hid (SP5.out.1.still t6); have B6 := Lib.hid (B5.out.turn t6 (fun h => h)); clear t6 p0 p1)
                | (go_at_call 32; refine (HLD.out _ T4.out).mono ?_; rintro e w5 ⟨q, vk, g, M', rfl, hsp, t5⟩; have T5 := Lib.hid (T4.out.trans t5); have SP5 := Lib.hid hsp; have B5 := Lib.hid (B4.out.turn t5 (fun h => h)); obtain ⟨p0, p1⟩ := cells2b16 B5.out; clear t5 hsp u0 u1)
                | (go_at_call 31; refine (HR2.out _ T3.out).mono ?_; rintro e w4 ⟨rfl, t4⟩; have T4 := Lib.hid ((T3.out.trans t4).alloc (.cells #[.slice A3 n c3, .int .i64 last, .int .i64 0] 66)); have B4 := Lib.hid ((B3.out.turn t4 (fun h => h)).alloc (.cells #[.slice A3 n c3, .int .i64 last, .int .i64 0] 66)); obtain ⟨u0, u1⟩ := cells2b16 B4.out; clear t4 z0 z1)
                | (go_at_call 23; refine (HCH.out _ T2.out).mono ?_; rintro e w3 ⟨rfl, t3⟩; have T3 := Lib.hid (T2.out.trans t3); obtain ⟨z0, z1⟩ := cells2b16 (B2.out.turn t3 (fun h => h)); have B3 := Lib.hid (B2.out.turn t3 (fun h => h)); clear t3 y0 y1)
                | (go_at_call 16; refine (HFW.out _).mono ?_; rintro e w2 ⟨rfl, t2⟩; have T2 := Lib.hid (T1.out.trans t2); obtain ⟨y0, y1⟩ := cells2b16 (B1.out.turn t2 (fun h => h)); have B2 := Lib.hid (B1.out.turn t2 (fun h => h)); clear t2 x0 x1))
              go_ret
              exact ⟨rfl, T9.out.toUp⟩
          | true =>
            have HAG2 := Lib.hid (HAG.out hm)
            have HS62 := Lib.hid (HS6.out hm)
            clear HAB HAG HS6 hm
            cases b0
            · cases h0
              all_goals
                go_enter Try.func7, Try.ntmps7
                go_wp2_with (first
                  | (go_at_call 17; refine (lives_16 _).mono ?_; rintro e w10 ⟨rfl, t10⟩; have T9 := Lib.hid (TH.out.trans t10.toUp); clear t10)
                  | (go_at_call 28; refine (HHI.out _ T8.out).mono ?_; rintro e w9 ⟨rfl, t9⟩; have TH := Lib.hid (T8.out.trans t9.toUp); clear t9)
                  | (go_at_call 30; refine (HS62.out _ _ _ _ _ SP7.out.1 SP7.out.2 T7.out).mono ?_; rintro e w8 ⟨rfl, t8⟩; have T8 := Lib.hid (T7.out.trans t8.toUp); obtain ⟨s0, s1⟩ := cells2b16 (B7.out.turn t8 (fun h => h)); clear t8 r0 r1)
                  | (go_at_call 34; refine (HAG2.out _ _ _ _ _ SP6.out SP5.out.2.1 (fun k hk => Nat.lt_of_lt_of_le B4.out.lt (SP5.out.2.2 k hk)) T6.out).mono ?_; rintro e w7 ⟨rfl, vk2, M2, hsp2, t7⟩; have T7 := Lib.hid (T6.out.toUp.trans t7); have SP7 := Lib.hid hsp2; have B7 := Lib.hid (B6.out.turn t7 (fun h => Nat.lt_irrefl _ h)); obtain ⟨r0, r1⟩ := cells2b16 B7.out; clear t7 hsp2)
                  | (go_at_call 30; refine (HS5.out _ _ _ _ _ SP5.out.1 SP5.out.2.1 T5.out.toUp).mono ?_; rintro e w6 ⟨rfl, t6⟩; have T6 := Lib.hid (T5.out.trans t6); have SP6 := Lib.hid (SP5.out.1.still t6); have B6 := Lib.hid (B5.out.turn t6 (fun h => h)); clear t6 p0 p1)
                  | (go_at_call 32; refine (HLD.out _ T4.out).mono ?_; rintro e w5 ⟨q, vk, g, M', rfl, hsp, t5⟩; have T5 := Lib.hid (T4.out.trans t5); have SP5 := Lib.hid hsp; have B5 := Lib.hid (B4.out.turn t5 (fun h => h)); obtain ⟨p0, p1⟩ := cells2b16 B5.out; clear t5 hsp u0 u1)
                  | (go_at_call 31; refine (HR2.out _ T3.out).mono ?_; rintro e w4 ⟨rfl, t4⟩; have T4 := Lib.hid ((T3.out.trans t4).alloc (.cells #[.slice A3 n c3, .int .i64 last, .int .i64 0] 66)); have B4 := Lib.hid ((B3.out.turn t4 (fun h => h)).alloc (.cells #[.slice A3 n c3, .int .i64 last, .int .i64 0] 66)); obtain ⟨u0, u1⟩ := cells2b16 B4.out; clear t4 z0 z1)
                  | (go_at_call 23; refine (HCH.out _ T2.out).mono ?_; rintro e w3 ⟨rfl, t3⟩; have T3 := Lib.hid (T2.out.trans t3); obtain ⟨z0, z1⟩ := cells2b16 (B2.out.turn t3 (fun h => h)); have B3 := Lib.hid (B2.out.turn t3 (fun h => h)); clear t3 y0 y1)
                  | (go_at_call 16; refine (HFW.out _).mono ?_; rintro e w2 ⟨rfl, t2⟩; have T2 := Lib.hid (T1.out.trans t2); obtain ⟨y0, y1⟩ := cells2b16 (B1.out.turn t2 (fun h => h)); have B2 := Lib.hid (B1.out.turn t2 (fun h => h)); clear t2 x0 x1))
                go_ret
                exact ⟨rfl, T9.out⟩
            · go_enter Try.func7, Try.ntmps7
              go_wp2_with (first
                | (go_at_call 17; refine (lives_16 _).mono ?_; rintro e w10 ⟨rfl, t10⟩; have T9 := Lib.hid (T8.out.trans t10.toUp); clear t10)
                | (go_at_call 30; refine (HS62.out _ _ _ _ _ SP7.out.1 SP7.out.2 T7.out).mono ?_; rintro e w8 ⟨rfl, t8⟩; have T8 := Lib.hid (T7.out.trans t8.toUp); obtain ⟨s0, s1⟩ := cells2b16 (B7.out.turn t8 (fun h => h)); clear t8 r0 r1)
                | (go_at_call 34; refine (HAG2.out _ _ _ _ _ SP6.out SP5.out.2.1 (fun k hk => Nat.lt_of_lt_of_le B4.out.lt (SP5.out.2.2 k hk)) T6.out).mono ?_; rintro e w7 ⟨rfl, vk2, M2, hsp2, t7⟩; have T7 := Lib.hid (T6.out.toUp.trans t7); have SP7 := Lib.hid hsp2; have B7 := Lib.hid (B6.out.turn t7 (fun h => Nat.lt_irrefl _ h)); obtain ⟨r0, r1⟩ := cells2b16 B7.out; clear t7 hsp2)
                | (go_at_call 30; refine (HS5.out _ _ _ _ _ SP5.out.1 SP5.out.2.1 T5.out.toUp).mono ?_; rintro e w6 ⟨rfl, t6⟩; have T6 := Lib.hid (T5.out.trans t6); have SP6 := Lib.hid (SP5.out.1.still t6); have B6 := Lib.hid (B5.out.turn t6 (fun h => h)); clear t6 p0 p1)
                | (go_at_call 32; refine (HLD.out _ T4.out).mono ?_; rintro e w5 ⟨q, vk, g, M', rfl, hsp, t5⟩; have T5 := Lib.hid (T4.out.trans t5); have SP5 := Lib.hid hsp; have B5 := Lib.hid (B4.out.turn t5 (fun h => h)); obtain ⟨p0, p1⟩ := cells2b16 B5.out; clear t5 hsp u0 u1)
                | (go_at_call 31; refine (HR2.out _ T3.out).mono ?_; rintro e w4 ⟨rfl, t4⟩; have T4 := Lib.hid ((T3.out.trans t4).alloc (.cells #[.slice A3 n c3, .int .i64 last, .int .i64 0] 66)); have B4 := Lib.hid ((B3.out.turn t4 (fun h => h)).alloc (.cells #[.slice A3 n c3, .int .i64 last, .int .i64 0] 66)); obtain ⟨u0, u1⟩ := cells2b16 B4.out; clear t4 z0 z1)
                | (go_at_call 23; refine (HCH.out _ T2.out).mono ?_; rintro e w3 ⟨rfl, t3⟩; have T3 := Lib.hid (T2.out.trans t3); obtain ⟨z0, z1⟩ := cells2b16 (B2.out.turn t3 (fun h => h)); have B3 := Lib.hid (B2.out.turn t3 (fun h => h)); clear t3 y0 y1)
                | (go_at_call 16; refine (HFW.out _).mono ?_; rintro e w2 ⟨rfl, t2⟩; have T2 := Lib.hid (T1.out.trans t2); obtain ⟨y0, y1⟩ := cells2b16 (B1.out.turn t2 (fun h => h)); have B2 := Lib.hid (B1.out.turn t2 (fun h => h)); clear t2 x0 x1))
              go_ret
              exact ⟨rfl, T9.out⟩
      · have HR2 : Hid (∀ X, Turn (fun _ => False) w X → Calls Try.prog 31 #[.slice A3 n c3, .int .i64 last, .int .i64 0] X fun e w' => e = .returned (.tuple #[.agg #[.slice none 0 0, .int .i64 0, .int .i64 0], .int .i64 4]) ∧ Turn (fun _ => False) X w') := Lib.hid (fun X hX => (HRF.out X hX).mono fun e w' ⟨h1, h2⟩ => by
          rcases h1 with ⟨h3, h4, _⟩ | ⟨_, h1⟩
          · exact absurd ⟨h3, h4⟩ hok
          · exact ⟨h1, h2⟩)
        clear HRF hok
        go_enter Try.func7, Try.ntmps7
        go_wp2_with (first
          | (go_at_call 17; refine (lives_16 _).mono ?_; rintro e w9 ⟨rfl, t9⟩; have T9 := Lib.hid (T4.out.trans t9); clear t9)
          | (go_at_call 31; refine (HR2.out _ T3.out).mono ?_; rintro e w4 ⟨rfl, t4⟩; have T4 := Lib.hid ((T3.out.trans t4).alloc (.cells #[.slice none 0 0, .int .i64 0, .int .i64 0] 66)); have B4 := Lib.hid ((B3.out.turn t4 (fun h => h)).alloc (.cells #[.slice none 0 0, .int .i64 0, .int .i64 0] 66)); obtain ⟨u0, u1⟩ := cells2b16 B4.out; clear t4 z0 z1)
          | (go_at_call 23; refine (HCH.out _ T2.out).mono ?_; rintro e w3 ⟨rfl, t3⟩; have T3 := Lib.hid (T2.out.trans t3); obtain ⟨z0, z1⟩ := cells2b16 (B2.out.turn t3 (fun h => h)); have B3 := Lib.hid (B2.out.turn t3 (fun h => h)); clear t3 y0 y1)
          | (go_at_call 16; refine (HFW.out _).mono ?_; rintro e w2 ⟨rfl, t2⟩; have T2 := Lib.hid (T1.out.trans t2); obtain ⟨y0, y1⟩ := cells2b16 (B1.out.turn t2 (fun h => h)); have B2 := Lib.hid (B1.out.turn t2 (fun h => h)); clear t2 x0 x1))
        go_ret
        exact ⟨rfl, T9.out.toUp⟩
theorem readsMet_walk (K : List ByteArray) (S : List Pq2) (A1 : Option Addr) (n1 c1 : Nat) (A2 : Option Addr) (n2 c2 : Nat) (v3 : Value) (M : List (Itm × Value)) (last t : Int) (v4 : Value) (C : List Cg) (w : World)
    (hk : Kx w (.slice A1 n1 c1) K) (hs : Px w (.slice A2 n2 c2) S) (_ : n1 ≤ c1) (_ : n2 ≤ c2) (hz : (∀ k ∈ K, k.size ≤ 140737488351232) ∧ ∀ s ∈ S, s.k.size ≤ 140737488351232 ∧ s.v.size ≤ 140737488351232) (hA : Ix14 w v3 M) (hz3 : ∀ p ∈ M, p.1.vs.length ≤ 140737488351232) (h1 : (Lit.int .i64 last).wf = true) (h2 : (Lit.int .i64 t).wf = true) (hc : Cx w v4 C) :
    Calls Try.prog 7 #[.agg #[.slice A1 n1 c1, .slice A2 n2 c2], v3, .int .i64 last, .int .i64 t, v4] w fun r w' => r = .returned (.bool true) ∧ Below w.heap.size w w' := by
  obtain ⟨A3, c3, rfl, _⟩ := id hA.1
  obtain ⟨A4, c4, rfl, _⟩ := id hc
  exact (readsMet_of K S A1 n1 c1 A2 n2 c2 A3 _ c3 M last t A4 _ c4 C w hk hs hz.1 hA hz3 hc).mono fun e w' ⟨he, ht⟩ => ⟨he, ht.below (Nat.le_refl _) (fun _ h => Nat.le_of_lt h)⟩
end Go.Proofs.Ytjkfgbmlhglnfaa
