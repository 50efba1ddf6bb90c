/- ReadsMeet: its walk. -/
import Derived.Test.YtjkfgbmlhglnfaaRdN
import Derived.Test.YtjkfgbmlhglnfaaRdX
import Derived.Test.YtjkfgbmlhglnfaaSpBq
import Derived.Test.YtjkfgbmlhglnfaaFrameX
namespace Go.Proofs.Ytjkfgbmlhglnfaa
open Go.RowKit Go.Shelf
set_option linter.unusedVariables false
set_option linter.unusedSimpArgs false
set_option maxRecDepth 100000
attribute [local go_sem] Oper.semAt_some

theorem chn_short : ∀ {L : List Vn}, chn L = true → ∀ y, L[0]? = some y → (L.length : Int) ≤ y.t
  | [], _, y, h => by simp at h
  | x :: L, h, y, hy => by
    obtain ⟨h1, h2, h3⟩ := (chn_cons x L).1 h
    simp only [List.getElem?_cons_zero, Option.some.injEq] at hy
    subst hy
    unfold rt at h1
    have h1 := (of_decide_eq_true h1).1.1
    cases L with
    | nil => simpa using h1
    | cons z L =>
      have g1 := h2 z rfl
      have g2 := chn_short h3 z rfl
      simp only [List.length_cons] at g2 ⊢
      omega
theorem okI_short {M : List (Itm × Value)} {last : Int} {N : Nat} (h : okI (M.map (fun p : Itm × Value => p.1)) last = true) (hl : last ≤ (N : Int)) : ∀ p ∈ M, p.1.vs.length ≤ N := fun p hp => by
  obtain ⟨_, h2, h3, h4⟩ := (fit_iff _ _).1 (okI_fit h p hp)
  cases hv : p.1.vs with
  | nil => simp
  | cons y l =>
    have g1 := h4 y (by rw [hv]; rfl)
    have g2 := chn_short h3 y (by rw [hv]; rfl)
    rw [hv] at g2
    omega
theorem Bm.upto {M : List (Itm × Value)} {N L : Nat} (h : Bm N M) (hk : N ≤ L) : Bm L M := ⟨Nat.le_trans h.1 hk, fun p hp => ⟨Nat.le_trans (h.2 p hp).1 hk, (h.2 p hp).2⟩⟩
theorem bm_alike {M M2 : List (Itm × Value)} {N : Nat} (e : M2.map (fun p : Itm × Value => p.1) = M.map (fun p : Itm × Value => p.1)) (h : Bm N M) : Bm N M2 := by
  have hl : M2.length = M.length := by have := congrArg List.length e; simpa using this
  refine ⟨by rw [hl]; exact h.1, fun p hp => ?_⟩
  have hm : p.1 ∈ M.map (fun p : Itm × Value => p.1) := by rw [← e]; exact List.mem_map.2 ⟨p, hp, rfl⟩
  obtain ⟨r, hr, er⟩ := List.mem_map.1 hm
  rw [← er]
  exact h.2 r hr
theorem stl_false (K : List ByteArray) (S : List Pq2) : stl16 K S (fun _ _ => false) = false := by unfold stl16; simp
set_option maxHeartbeats 16000000 in
theorem readsMeet_of (K : List ByteArray) (S : List Pq2) (A1 : Option Addr) (n1 c1 : Nat) (A2 : Option Addr) (n2 c2 : Nat) (key : ByteArray) (A4 : Option Addr) (m c4 : Nat) (C : List Cg) (A3 : Option Addr) (n c3 : Nat) (M : List (Itm × Value)) (t : Int) (w : World)
    (hk : Kx w (.slice A1 n1 c1) K) (hs : Px w (.slice A2 n2 c2) S) (hzk : ∀ k ∈ K, Szd k) (hzs : ∀ s ∈ S, Szd s.k ∧ Szd s.v) (hzz : Szd key) (hc : Cx w (.slice A4 m c4) C) (hzc : ∀ c ∈ C, Szd c.k) (hA : Ix14 w (.slice A3 n c3) M) (hz3 : ∀ p ∈ M, p.1.vs.length ≤ 140737488351232) :
    Calls Try.prog 6 #[.agg #[.slice A1 n1 c1, .slice A2 n2 c2], .string key, .slice A4 m c4, .slice A3 n c3, .int .i64 t] w fun r w' => r = .returned (.bool true) ∧ Turn (fun _ => False) w w' := by
  have hn : M.length = n := by
    obtain ⟨A, c, e, _⟩ := hA.1
    injection e with e1 e2 e3
    exact e2.symm
  have HFW := Lib.hid (fun W => few_16 A1 n1 c1 A2 n2 c2 W)
  have HCO := Lib.hid (fun W (hW : Turn (fun _ => False) w W) => covers_16 K S key A1 n1 c1 A2 n2 c2 W (hk.still hW) (hs.still hW))
  have HRC := Lib.hid (fun W (hW : Turn (fun _ => False) w W) => refCovers_16 K S key A1 n1 c1 A2 n2 c2 W (hk.still hW) (hs.still hW) hzk hzs hzz)
  have HHI := Lib.hid (fun W (hW : Turn (fun _ => False) w W) => hit_16 K S C _ A1 n1 c1 A2 n2 c2 W (hk.still hW) (hs.still hW) (hc.still hW))
  have HRH := Lib.hid (fun W (hW : Turn (fun _ => False) w W) => refHit_16 K S C A1 n1 c1 A2 n2 c2 A4 m c4 W (hk.still hW) (hs.still hW) (hc.still hW) hzk hzs hzc)
  have HST := Lib.hid (fun P f W (hW : Turn (fun _ => False) w W) (hq : Snq W (.pointer P) t f) => stale_16 K S A1 n1 c1 A2 n2 c2 P t f W (hk.still hW) (hs.still hW) hq hzk)
  have HRS := Lib.hid (fun (hm : ∀ p ∈ M, p.1.k.size ≤ 1000) W (hW : Turn (fun _ => False) w W) => refStale_16 K S M A1 n1 c1 A2 n2 c2 A3 n c3 1000 0 t W (hk.still hW) (hs.still hW) (hA.1.still hW) hzk hzs hm)
  have HRF := Lib.hid (fun X (hX : Turn (fun _ => False) w X) => refLoad14 M _ 1000 0 X (hA.1.still hX))
  have HIX := Lib.hid hA
  have HZ3 := Lib.hid hz3
  have HN := Lib.hid hn
  obtain ⟨W1, hW1⟩ : ∃ W, w.alloc (.cells #[.slice A1 n1 c1, .slice A2 n2 c2] 46) = W := ⟨_, rfl⟩
  have T1 : Hid (Turn (fun _ => False) w W1) := Lib.hid (hW1 ▸ (Turn.refl _ _).alloc _)
  have B1 : Hid (Blk W1 w.heap.size 46 [.slice A1 n1 c1, .slice A2 n2 c2]) := Lib.hid (hW1 ▸ Blk.new _ _ _)
  obtain ⟨x0, x1⟩ := cells2b16 B1.out
  clear hk hs hzk hzs hzz hc hzc hA hz3 hn
  cases hfw : decide (n1 ≤ 100 ∧ n2 ≤ 100) with
  | false =>
    rw [hfw] at HFW
    clear hfw
    go_enter Try.func6, Try.ntmps6
    go_wp2_with (first
      | (go_at_call 17; refine (lives_16 _).mono ?_; rintro e w9 ⟨rfl, t9⟩; have T9 := Lib.hid (T2.out.trans t9); clear t9)
      | (go_at_call 16; refine (HFW.out _).mono ?_; rintro e w2 ⟨rfl, t2⟩; have T2 := Lib.hid (T1.out.trans t2); obtain ⟨y0, y1⟩ := cells2b16 (B1.out.turn t2 (fun h => h)); have B2 := Lib.hid (B1.out.turn t2 (fun h => h)); clear t2 x0 x1))
    go_ret
    exact ⟨rfl, T9.out⟩
  | true =>
    rw [hfw] at HFW
    clear hfw
    by_cases hm100 : (100 : Int) < (m : Int)
    · have hm100b : decide ((100 : Int) < (m : Int)) = true := by simpa using hm100
      go_enter Try.func6, Try.ntmps6
      go_wp2_with (first
        | (go_at_call 17; refine (lives_16 _).mono ?_; rintro e w9 ⟨rfl, t9⟩; have T9 := Lib.hid (T2.out.trans t9); clear t9)
        | (go_at_call 16; refine (HFW.out _).mono ?_; rintro e w2 ⟨rfl, t2⟩; have T2 := Lib.hid (T1.out.trans t2); obtain ⟨y0, y1⟩ := cells2b16 (B1.out.turn t2 (fun h => h)); have B2 := Lib.hid (B1.out.turn t2 (fun h => h)); clear t2 x0 x1))
      go_ret
      exact ⟨rfl, T9.out⟩
    by_cases hn100 : (100 : Int) < (n : Int)
    · have hn100b : decide ((100 : Int) < (n : Int)) = true := by simpa using hn100
      go_enter Try.func6, Try.ntmps6
      go_wp2_with (first
        | (go_at_call 17; refine (lives_16 _).mono ?_; rintro e w9 ⟨rfl, t9⟩; have T9 := Lib.hid (T2.out.trans t9); clear t9)
        | (go_at_call 16; refine (HFW.out _).mono ?_; rintro e w2 ⟨rfl, t2⟩; have T2 := Lib.hid (T1.out.trans t2); obtain ⟨y0, y1⟩ := cells2b16 (B1.out.turn t2 (fun h => h)); have B2 := Lib.hid (B1.out.turn t2 (fun h => h)); clear t2 x0 x1))
      go_ret
      exact ⟨rfl, T9.out⟩
    have HS0 : Hid (∀ W, Turn (fun _ => False) w W → Calls Try.prog 30 #[.agg #[.slice A1 n1 c1, .slice A2 n2 c2], .pointer none, .int .i64 t] W fun e w' => e = .returned (.bool false) ∧ Turn (fun _ => False) W w') := Lib.hid (fun W hW => by
      have h := HST.out none _ W hW (snq_nil W t)
      rw [stl_false, Bool.and_false] at h
      exact h)
    obtain ⟨b1, hb1⟩ : ∃ b, (rgb16 K S && cov16 K S key) = b := ⟨_, rfl⟩
    obtain ⟨h1, hh1⟩ : ∃ b, hit16 K S C = b := ⟨_, rfl⟩
    rw [hb1] at HCO HRC
    rw [hh1] at HHI HRH
    clear hb1 hh1
    by_cases hok : okI (M.map (fun p : Itm × Value => p.1)) 1000 = true
    · have HR2 : Hid (∀ X, Turn (fun _ => False) w X → Calls Try.prog 31 #[.slice A3 n c3, .int .i64 1000, .int .i64 0] X fun e w' => e = .returned (.tuple #[.agg #[.slice A3 n c3, .int .i64 1000, .int .i64 0], .int .i64 0]) ∧ Turn (fun _ => False) X w') := Lib.hid (fun X hX => (HRF.out X hX).mono fun e w' ⟨h1, h2⟩ => by
        rcases h1 with ⟨_, _, h1⟩ | ⟨h1, _⟩
        · exact ⟨h1, h2⟩
        · exact absurd ⟨⟨by omega, by omega, by omega, by omega⟩, hok⟩ h1)
      have hb3 : M.length ≤ 10000000 ∧ ∀ p ∈ M, p.1.vs.length ≤ 1000000000000000 ∧ p.1.k.size ≤ maxLen := ⟨by rw [HN.out]; omega, fun p hp => ⟨by have := HZ3.out p hp; omega, (HIX.out.2 p hp).1⟩⟩
      have hshort := okI_short (N := 1000) hok (by omega)
      have HBM : Hid (Bm 1000 M) := Lib.hid (okI_bm hok (by rw [HN.out]; omega) hshort)
      have HLD : Hid (∀ X, Turn (fun _ => False) w X → Calls Try.prog 32 #[.slice A3 n c3, .int .i64 1000, .int .i64 0] X fun e w' => ∃ q vk g M', e = .returned (.tuple #[.pointer (some ⟨q, 0, none⟩), .int .i64 0]) ∧ (Sp w' q vk g M' 1000 0 ∧ M'.map (fun p : Itm × Value => p.1) = M.map (fun p : Itm × Value => p.1)) ∧ Turn (fun _ => False) X w') := Lib.hid (fun X hX => (load_14 M _ 1000 0 X (HIX.out.1.still hX) hb3 (fun _ p hp => by have := hshort p hp; omega) (fun p hp A n c e => (HIX.out.2 p hp).2 A n c e) (by omega)).mono fun e w' ⟨h1, h2⟩ => by
        rcases h1 with ⟨_, q, vk, g, M', e1, hsp, he, hfr⟩ | ⟨h1, _⟩
        · exact ⟨q, vk, g, M', e1, ⟨hsp, he⟩, h2⟩
        · rw [hok] at h1; cases h1)
      obtain ⟨sv, hsv⟩ : ∃ b, (rgb16 K S && stI16 K S (M.map (fun p : Itm × Value => p.1)) t) = b := ⟨_, rfl⟩
      have HR9 : Hid (∀ W, Turn (fun _ => False) w W → Calls Try.prog 33 #[.agg #[.slice A1 n1 c1, .slice A2 n2 c2], .agg #[.slice A3 n c3, .int .i64 1000, .int .i64 0], .int .i64 t] W fun e w' => e = .returned (.bool sv) ∧ Turn (fun _ => False) W w') := Lib.hid (fun W hW => by
        have h := HRS.out (fun p hp => by have := (HBM.out.2 p hp).2; omega) W hW
        rw [rst_eq, hsv] at h
        exact h)
      have HS9 : Hid (∀ W q vk g M', Sp W q vk g M' 1000 0 → M'.map (fun p : Itm × Value => p.1) = M.map (fun p : Itm × Value => p.1) → Turn (fun _ => False) w W → Calls Try.prog 30 #[.agg #[.slice A1 n1 c1, .slice A2 n2 c2], .pointer (some ⟨q, 0, none⟩), .int .i64 t] W fun e w' => e = .returned (.bool sv) ∧ Turn (fun _ => False) W w') := Lib.hid (fun W q vk g M' hsp he hW => by
        have h := HST.out _ _ W hW (snq_sp hsp ((bm_alike he HBM.out).upto (by omega)) t)
        have e : (rgb16 K S && stl16 K S (fun a b => snc14 M' a b t)) = sv := by
          rw [← hsv]
          cases hr : rgb16 K S with
          | false => rfl
          | true => rw [stl_items (rgb_iff.1 hr).2.2.1, he]
        rw [e] at h
        exact h)
      clear HRF hok hb3 hshort hsv HST HRS HBM HIX HZ3 HN
      go_enter Try.func6, Try.ntmps6
      go_upto_region 3 with (first | (go_at_call 16; refine (HFW.out _).mono ?_; rintro e w2 ⟨rfl, t2⟩; have T2 := Lib.hid (T1.out.trans t2); obtain ⟨y0, y1⟩ := cells2b16 (B1.out.turn t2 (fun h => h)); have B2 := Lib.hid (B1.out.turn t2 (fun h => h)); clear t2 x0 x1))
      have U0 : Hid (Turn (fun _ => False) w2 w2.drew) := Lib.hid (Turn.refl _ _).drew
      refine wp_region_noPanic ?_
      refine wp_region_held_drew (S := (fun X => Turn (fun _ => False) w2 X)) (by kernel_rfl) U0.out (fun hHeld => ?_)
      clear hHeld
      refine wpAnyH_take (i := 0) (v := ?_) rfl (by kernel_rfl) (by kernel_rfl) (by kernel_rfl) (fun _ _ _ h => h) (Or.inl ⟨by rfl, ?_⟩) (by assumption) ?_
      rotate_left 1
      · intro w' hSw
        obtain ⟨p0, p1⟩ := cells2b16 (B2.out.turn hSw (fun h => h))
        go_simp
        all_goals first | with_reducible rfl | (rw [if_neg (by omega)]; done) | (rw [if_pos (by omega)]; done)
      try simp only [List.getElem_toArray, List.getElem_cons_zero, List.getElem_cons_succ, Act.put, List.setIfInBounds_toArray, List.set_cons_zero, List.set_cons_succ]
      refine wpAnyH_take (i := 1) (v := ?_) rfl (by kernel_rfl) (by kernel_rfl) (by kernel_rfl) (fun _ _ _ h => h) (Or.inl ⟨by rfl, ?_⟩) (by assumption) ?_
      rotate_left 1
      · intro w' hSw
        go_simp
        all_goals first | with_reducible rfl | (rw [if_neg (by omega)]; done) | (rw [if_pos (by omega)]; done)
      try simp only [List.getElem_toArray, List.getElem_cons_zero, List.getElem_cons_succ, Act.put, List.setIfInBounds_toArray, List.set_cons_zero, List.set_cons_succ]
      refine wpAnyH_take (i := 3) (v := ?_) rfl (by kernel_rfl) (by kernel_rfl) (by kernel_rfl) (fun _ _ _ h => h) (Or.inl ⟨by rfl, ?_⟩) (by assumption) ?_
      rotate_left 1
      · intro w' hSw
        obtain ⟨p0, p1⟩ := cells2b16 (B2.out.turn hSw (fun h => h))
        go_simp
        all_goals first | with_reducible rfl | (rw [if_neg (by omega)]; done) | (rw [if_pos (by omega)]; done)
      try simp only [List.getElem_toArray, List.getElem_cons_zero, List.getElem_cons_succ, Act.put, List.setIfInBounds_toArray, List.set_cons_zero, List.set_cons_succ]
      refine wpAnyH_take (i := 4) (v := ?_) rfl (by kernel_rfl) (by kernel_rfl) (by kernel_rfl) (fun _ _ _ h => h) (Or.inl ⟨by rfl, ?_⟩) (by assumption) ?_
      rotate_left 1
      · intro w' hSw
        go_simp
        all_goals first | with_reducible rfl | (rw [if_neg (by omega)]; done) | (rw [if_pos (by omega)]; done)
      try simp only [List.getElem_toArray, List.getElem_cons_zero, List.getElem_cons_succ, Act.put, List.setIfInBounds_toArray, List.set_cons_zero, List.set_cons_succ]
      refine wpAnyH_ready (rs := [2]) (by kernel_rfl) (by simp) ?_
      refine AllReadyH.cons rfl (fun K hK => ?_) AllReadyH.nil
      refine step_call rfl 26 Try.f26 _ _ rfl Try.func26 (by kernel_rfl) (by kernel_rfl) _ _ ((HCO.out _ (T2.out.trans U0.out)).mono fun e W' h => (⟨_, h.1, rfl, h.2⟩ : ∃ v, e = .returned v ∧ v = _ ∧ Turn (fun _ => False) _ W')) (by go_simp) ?_
      rintro v9 w21 ⟨rfl, ht9⟩
      have U21 := Lib.hid (U0.out.trans ht9)
      clear ht9
      refine hK.out _ _ U21.out (fun hHeld => ?_)
      clear hHeld hK K
      try simp only [List.getElem_toArray, List.getElem_cons_zero, List.getElem_cons_succ, Act.put, List.setIfInBounds_toArray, List.set_cons_zero, List.set_cons_succ]
      refine wpAnyH_ready (rs := [5]) (by kernel_rfl) (by simp) ?_
      refine AllReadyH.cons rfl (fun K hK => ?_) AllReadyH.nil
      refine step_call rfl 27 Try.f27 _ _ rfl Try.func27 (by kernel_rfl) (by kernel_rfl) _ _ ((HRC.out _ (T2.out.trans U21.out)).mono fun e W' h => (⟨_, h.1, rfl, h.2⟩ : ∃ v, e = .returned v ∧ v = _ ∧ Turn (fun _ => False) _ W')) (by go_simp) ?_
      rintro v9 w22 ⟨rfl, ht9⟩
      have U22 := Lib.hid (U21.out.trans ht9)
      clear ht9
      refine hK.out _ _ U22.out (fun hHeld => ?_)
      clear hHeld hK K
      try simp only [List.getElem_toArray, List.getElem_cons_zero, List.getElem_cons_succ, Act.put, List.setIfInBounds_toArray, List.set_cons_zero, List.set_cons_succ]
      refine wpAnyH_take (i := 6) (v := .bool false) rfl (by kernel_rfl) (by kernel_rfl) (by kernel_rfl) (fun _ _ _ h => h) (Or.inl ⟨by rfl, ?_⟩) (by assumption) ?_
      · intro w' hSw
        go_simp
        all_goals first | (cases b1 <;> rfl) | with_reducible rfl | (rw [if_neg (by omega)]; done) | (rw [if_pos (by omega)]; done)
      try simp only [List.getElem_toArray, List.getElem_cons_zero, List.getElem_cons_succ, Act.put, List.setIfInBounds_toArray, List.set_cons_zero, List.set_cons_succ]
      refine wpAnyH_take (i := 7) (v := ?_) rfl (by kernel_rfl) (by kernel_rfl) (by kernel_rfl) (fun _ _ _ h => h) (Or.inl ⟨by rfl, ?_⟩) (by assumption) ?_
      rotate_left 1
      · intro w' hSw
        go_simp
        all_goals first | with_reducible rfl | (rw [if_neg (by omega)]; done) | (rw [if_pos (by omega)]; done)
      try simp only [List.getElem_toArray, List.getElem_cons_zero, List.getElem_cons_succ, Act.put, List.setIfInBounds_toArray, List.set_cons_zero, List.set_cons_succ]
      refine wpAnyH_take (i := 8) (v := ?_) rfl (by kernel_rfl) (by kernel_rfl) (by kernel_rfl) (fun _ _ _ h => h) (Or.inl ⟨by rfl, ?_⟩) (by assumption) ?_
      rotate_left 1
      · intro w' hSw
        obtain ⟨p0, p1⟩ := cells2b16 (B2.out.turn hSw (fun h => h))
        go_simp
        all_goals first | with_reducible rfl | (rw [if_neg (by omega)]; done) | (rw [if_pos (by omega)]; done)
      try simp only [List.getElem_toArray, List.getElem_cons_zero, List.getElem_cons_succ, Act.put, List.setIfInBounds_toArray, List.set_cons_zero, List.set_cons_succ]
      refine wpAnyH_take (i := 9) (v := ?_) rfl (by kernel_rfl) (by kernel_rfl) (by kernel_rfl) (fun _ _ _ h => h) (Or.inl ⟨by rfl, ?_⟩) (by assumption) ?_
      rotate_left 1
      · intro w' hSw
        go_simp
        all_goals first | with_reducible rfl | (rw [if_neg (by omega)]; done) | (rw [if_pos (by omega)]; done)
      try simp only [List.getElem_toArray, List.getElem_cons_zero, List.getElem_cons_succ, Act.put, List.setIfInBounds_toArray, List.set_cons_zero, List.set_cons_succ]
      refine wpAnyH_take (i := 11) (v := ?_) rfl (by kernel_rfl) (by kernel_rfl) (by kernel_rfl) (fun _ _ _ h => h) (Or.inl ⟨by rfl, ?_⟩) (by assumption) ?_
      rotate_left 1
      · intro w' hSw
        obtain ⟨p0, p1⟩ := cells2b16 (B2.out.turn hSw (fun h => h))
        go_simp
        all_goals first | with_reducible rfl | (rw [if_neg (by omega)]; done) | (rw [if_pos (by omega)]; done)
      try simp only [List.getElem_toArray, List.getElem_cons_zero, List.getElem_cons_succ, Act.put, List.setIfInBounds_toArray, List.set_cons_zero, List.set_cons_succ]
      refine wpAnyH_take (i := 12) (v := ?_) rfl (by kernel_rfl) (by kernel_rfl) (by kernel_rfl) (fun _ _ _ h => h) (Or.inl ⟨by rfl, ?_⟩) (by assumption) ?_
      rotate_left 1
      · intro w' hSw
        go_simp
        all_goals first | with_reducible rfl | (rw [if_neg (by omega)]; done) | (rw [if_pos (by omega)]; done)
      try simp only [List.getElem_toArray, List.getElem_cons_zero, List.getElem_cons_succ, Act.put, List.setIfInBounds_toArray, List.set_cons_zero, List.set_cons_succ]
      refine wpAnyH_ready (rs := [10]) (by kernel_rfl) (by simp) ?_
      refine AllReadyH.cons rfl (fun K hK => ?_) AllReadyH.nil
      refine step_call_on 28 Try.f28 _ _ rfl Try.func28 (by kernel_rfl) (by kernel_rfl) _ _ ((HHI.out _ (T2.out.trans U22.out)).mono fun e W' h => (⟨_, h.1, rfl, h.2⟩ : ∃ v, e = .returned v ∧ v = _ ∧ Turn (fun _ => False) _ W')) (by go_simp) (by rfl) ?_
      rintro v9 w23 ⟨rfl, ht9⟩
      have U23 := Lib.hid (U22.out.trans ht9)
      clear ht9
      refine hK.out _ _ U23.out (fun hHeld => ?_)
      clear hHeld hK K
      try simp only [List.getElem_toArray, List.getElem_cons_zero, List.getElem_cons_succ, Act.put, List.setIfInBounds_toArray, List.set_cons_zero, List.set_cons_succ]
      refine wpAnyH_ready (rs := [13]) (by kernel_rfl) (by simp) ?_
      refine AllReadyH.cons rfl (fun K hK => ?_) AllReadyH.nil
      refine step_call_on 29 Try.f29 _ _ rfl Try.func29 (by kernel_rfl) (by kernel_rfl) _ _ ((HRH.out _ (T2.out.trans U23.out)).mono fun e W' h => (⟨_, h.1, rfl, h.2⟩ : ∃ v, e = .returned v ∧ v = _ ∧ Turn (fun _ => False) _ W')) (by go_simp) (by rfl) ?_
      rintro v9 w24 ⟨rfl, ht9⟩
      have U24 := Lib.hid (U23.out.trans ht9)
      clear ht9
      refine hK.out _ _ U24.out (fun hHeld => ?_)
      clear hHeld hK K
      try simp only [List.getElem_toArray, List.getElem_cons_zero, List.getElem_cons_succ, Act.put, List.setIfInBounds_toArray, List.set_cons_zero, List.set_cons_succ]
      refine wpAnyH_take (i := 14) (v := .bool false) rfl (by kernel_rfl) (by kernel_rfl) (by kernel_rfl) (fun _ _ _ h => h) (Or.inl ⟨by rfl, ?_⟩) (by assumption) ?_
      · intro w' hSw
        go_simp
        all_goals first | (cases h1 <;> rfl) | with_reducible rfl | (rw [if_neg (by omega)]; done) | (rw [if_pos (by omega)]; done)
      try simp only [List.getElem_toArray, List.getElem_cons_zero, List.getElem_cons_succ, Act.put, List.setIfInBounds_toArray, List.set_cons_zero, List.set_cons_succ]
      refine wpAnyH_take (i := 15) (v := ?_) rfl (by kernel_rfl) (by kernel_rfl) (by kernel_rfl) (fun _ _ _ h => h) (Or.inl ⟨by rfl, ?_⟩) (by assumption) ?_
      rotate_left 1
      · intro w' hSw
        go_simp
        all_goals first | with_reducible rfl | (rw [if_neg (by omega)]; done) | (rw [if_pos (by omega)]; done)
      try simp only [List.getElem_toArray, List.getElem_cons_zero, List.getElem_cons_succ, Act.put, List.setIfInBounds_toArray, List.set_cons_zero, List.set_cons_succ]
      refine wpAnyH_take (i := 16) (v := ?_) rfl (by kernel_rfl) (by kernel_rfl) (by kernel_rfl) (fun _ _ _ h => h) (Or.inl ⟨by rfl, ?_⟩) (by assumption) ?_
      rotate_left 1
      · intro w' hSw
        go_simp
        all_goals first | with_reducible rfl | (rw [if_neg (by omega)]; done) | (rw [if_pos (by omega)]; done)
      try simp only [List.getElem_toArray, List.getElem_cons_zero, List.getElem_cons_succ, Act.put, List.setIfInBounds_toArray, List.set_cons_zero, List.set_cons_succ]
      refine wpAnyH_take (i := 17) (v := ?_) rfl (by kernel_rfl) (by kernel_rfl) (by kernel_rfl) (fun _ _ _ h => h) (Or.inl ⟨by rfl, ?_⟩) (by assumption) ?_
      rotate_left 1
      · intro w' hSw
        obtain ⟨p0, p1⟩ := cells2b16 (B2.out.turn hSw (fun h => h))
        go_simp
        all_goals first | with_reducible rfl | (rw [if_neg (by omega)]; done) | (rw [if_pos (by omega)]; done)
      try simp only [List.getElem_toArray, List.getElem_cons_zero, List.getElem_cons_succ, Act.put, List.setIfInBounds_toArray, List.set_cons_zero, List.set_cons_succ]
      refine wpAnyH_take (i := 18) (v := ?_) rfl (by kernel_rfl) (by kernel_rfl) (by kernel_rfl) (fun _ _ _ h => h) (Or.inl ⟨by rfl, ?_⟩) (by assumption) ?_
      rotate_left 1
      · intro w' hSw
        go_simp
        all_goals first | with_reducible rfl | (rw [if_neg (by omega)]; done) | (rw [if_pos (by omega)]; done)
      try simp only [List.getElem_toArray, List.getElem_cons_zero, List.getElem_cons_succ, Act.put, List.setIfInBounds_toArray, List.set_cons_zero, List.set_cons_succ]
      refine wpAnyH_ready (rs := [19]) (by kernel_rfl) (by simp) ?_
      refine AllReadyH.cons rfl (fun K hK => ?_) AllReadyH.nil
      refine step_call_on 30 Try.f30 _ _ rfl Try.func30 (by kernel_rfl) (by kernel_rfl) _ _ ((HS0.out _ (T2.out.trans U24.out)).mono fun e W' h => (⟨_, h.1, rfl, h.2⟩ : ∃ v, e = .returned v ∧ v = _ ∧ Turn (fun _ => False) _ W')) (by go_simp) (by rfl) ?_
      rintro v9 w25 ⟨rfl, ht9⟩
      have U25 := Lib.hid (U24.out.trans ht9)
      clear ht9
      refine hK.out _ _ U25.out (fun hHeld => ?_)
      clear hHeld hK K
      try simp only [List.getElem_toArray, List.getElem_cons_zero, List.getElem_cons_succ, Act.put, List.setIfInBounds_toArray, List.set_cons_zero, List.set_cons_succ]
      refine wpAnyH_take (i := 20) (v := ?_) rfl (by kernel_rfl) (by kernel_rfl) (by kernel_rfl) (fun _ _ _ h => h) (Or.inl ⟨by rfl, ?_⟩) (by assumption) ?_
      rotate_left 1
      · intro w' hSw
        go_simp
        all_goals first | with_reducible rfl | (rw [if_neg (by omega)]; done) | (rw [if_pos (by omega)]; done)
      try simp only [List.getElem_toArray, List.getElem_cons_zero, List.getElem_cons_succ, Act.put, List.setIfInBounds_toArray, List.set_cons_zero, List.set_cons_succ]
      refine wpAnyH_done (by kernel_rfl) ?_ _
      refine NoPanic.normal ?_
      have T5 := Lib.hid (T2.out.trans U25.out)
      have B5 := Lib.hid (B2.out.turn U25.out (fun h => h))
      clear y0 y1
      go_upto_region 9 with (first
        | (go_at_call 32; refine (HLD.out _ T6.out).mono ?_; rintro e w7 ⟨q, vk, g, M', rfl, hsp, t7⟩; have T7 := Lib.hid (T6.out.trans t7); have SP7 := Lib.hid hsp; have B7 := Lib.hid (B6.out.turn t7 (fun h => h)); have D7 := Lib.hid (D6.out.turn t7 (fun h => h)); clear t7 hsp)
        | (go_at_call 31; refine (HR2.out _ T5.out).mono ?_; rintro e w6 ⟨rfl, t6⟩; have T6 := Lib.hid ((T5.out.trans t6).alloc (.cells #[.slice A3 n c3, .int .i64 1000, .int .i64 0] 66)); have B6 := Lib.hid ((B5.out.turn t6 (fun h => h)).alloc (.cells #[.slice A3 n c3, .int .i64 1000, .int .i64 0] 66)); have D6 := Lib.hid (Blk.new w6 66 [.slice A3 n c3, .int .i64 1000, .int .i64 0]); clear t6))
      have V0 : Hid (Turn (fun _ => False) w7 w7.drew) := Lib.hid (Turn.refl _ _).drew
      refine wp_region_noPanic ?_
      refine wp_region_held_drew (S := (fun X => Turn (fun _ => False) w7 X)) (by kernel_rfl) V0.out (fun hHeld => ?_)
      clear hHeld
      refine wpAnyH_take (i := 0) (v := ?_) rfl (by kernel_rfl) (by kernel_rfl) (by kernel_rfl) (fun _ _ _ h => h) (Or.inl ⟨by rfl, ?_⟩) (by assumption) ?_
      rotate_left 1
      · intro w' hSw
        go_simp
        all_goals first | with_reducible rfl | (rw [if_neg (by omega)]; done) | (rw [if_pos (by omega)]; done)
      try simp only [List.getElem_toArray, List.getElem_cons_zero, List.getElem_cons_succ, Act.put, List.setIfInBounds_toArray, List.set_cons_zero, List.set_cons_succ]
      refine wpAnyH_take (i := 1) (v := ?_) rfl (by kernel_rfl) (by kernel_rfl) (by kernel_rfl) (fun _ _ _ h => h) (Or.inl ⟨by rfl, ?_⟩) (by assumption) ?_
      rotate_left 1
      · intro w' hSw
        go_simp
        all_goals first | with_reducible rfl | (rw [if_neg (by omega)]; done) | (rw [if_pos (by omega)]; done)
      try simp only [List.getElem_toArray, List.getElem_cons_zero, List.getElem_cons_succ, Act.put, List.setIfInBounds_toArray, List.set_cons_zero, List.set_cons_succ]
      refine wpAnyH_take (i := 2) (v := ?_) rfl (by kernel_rfl) (by kernel_rfl) (by kernel_rfl) (fun _ _ _ h => h) (Or.inl ⟨by rfl, ?_⟩) (by assumption) ?_
      rotate_left 1
      · intro w' hSw
        go_simp
        all_goals first | with_reducible rfl | (rw [if_neg (by omega)]; done) | (rw [if_pos (by omega)]; done)
      try simp only [List.getElem_toArray, List.getElem_cons_zero, List.getElem_cons_succ, Act.put, List.setIfInBounds_toArray, List.set_cons_zero, List.set_cons_succ]
      refine wpAnyH_take (i := 3) (v := ?_) rfl (by kernel_rfl) (by kernel_rfl) (by kernel_rfl) (fun _ _ _ h => h) (Or.inl ⟨by rfl, ?_⟩) (by assumption) ?_
      rotate_left 1
      · intro w' hSw
        go_simp
        all_goals first | with_reducible rfl | (rw [if_neg (by omega)]; done) | (rw [if_pos (by omega)]; done)
      try simp only [List.getElem_toArray, List.getElem_cons_zero, List.getElem_cons_succ, Act.put, List.setIfInBounds_toArray, List.set_cons_zero, List.set_cons_succ]
      refine wpAnyH_take (i := 4) (v := ?_) rfl (by kernel_rfl) (by kernel_rfl) (by kernel_rfl) (fun _ _ _ h => h) (Or.inl ⟨by rfl, ?_⟩) (by assumption) ?_
      rotate_left 1
      · intro w' hSw
        go_simp
        all_goals first | with_reducible rfl | (rw [if_neg (by omega)]; done) | (rw [if_pos (by omega)]; done)
      try simp only [List.getElem_toArray, List.getElem_cons_zero, List.getElem_cons_succ, Act.put, List.setIfInBounds_toArray, List.set_cons_zero, List.set_cons_succ]
      refine wpAnyH_take (i := 5) (v := ?_) rfl (by kernel_rfl) (by kernel_rfl) (by kernel_rfl) (fun _ _ _ h => h) (Or.inl ⟨by rfl, ?_⟩) (by assumption) ?_
      rotate_left 1
      · intro w' hSw
        go_simp
        all_goals first | with_reducible rfl | (rw [if_neg (by omega)]; done) | (rw [if_pos (by omega)]; done)
      try simp only [List.getElem_toArray, List.getElem_cons_zero, List.getElem_cons_succ, Act.put, List.setIfInBounds_toArray, List.set_cons_zero, List.set_cons_succ]
      refine wpAnyH_take (i := 6) (v := ?_) rfl (by kernel_rfl) (by kernel_rfl) (by kernel_rfl) (fun _ _ _ h => h) (Or.inl ⟨by rfl, ?_⟩) (by assumption) ?_
      rotate_left 1
      · intro w' hSw
        go_simp
        all_goals first | with_reducible rfl | (rw [if_neg (by omega)]; done) | (rw [if_pos (by omega)]; done)
      try simp only [List.getElem_toArray, List.getElem_cons_zero, List.getElem_cons_succ, Act.put, List.setIfInBounds_toArray, List.set_cons_zero, List.set_cons_succ]
      refine wpAnyH_take (i := 7) (v := ?_) rfl (by kernel_rfl) (by kernel_rfl) (by kernel_rfl) (fun _ _ _ h => h) (Or.inl ⟨by rfl, ?_⟩) (by assumption) ?_
      rotate_left 1
      · intro w' hSw
        obtain ⟨p0, p1⟩ := cells2b16 (B7.out.turn hSw (fun h => h))
        go_simp
        all_goals first | with_reducible rfl | (rw [if_neg (by omega)]; done) | (rw [if_pos (by omega)]; done)
      try simp only [List.getElem_toArray, List.getElem_cons_zero, List.getElem_cons_succ, Act.put, List.setIfInBounds_toArray, List.set_cons_zero, List.set_cons_succ]
      refine wpAnyH_take (i := 8) (v := ?_) rfl (by kernel_rfl) (by kernel_rfl) (by kernel_rfl) (fun _ _ _ h => h) (Or.inl ⟨by rfl, ?_⟩) (by assumption) ?_
      rotate_left 1
      · intro w' hSw
        go_simp
        all_goals first | with_reducible rfl | (rw [if_neg (by omega)]; done) | (rw [if_pos (by omega)]; done)
      try simp only [List.getElem_toArray, List.getElem_cons_zero, List.getElem_cons_succ, Act.put, List.setIfInBounds_toArray, List.set_cons_zero, List.set_cons_succ]
      refine wpAnyH_take (i := 9) (v := ?_) rfl (by kernel_rfl) (by kernel_rfl) (by kernel_rfl) (fun _ _ _ h => h) (Or.inl ⟨by rfl, ?_⟩) (by assumption) ?_
      rotate_left 1
      · intro w' hSw
        go_simp
        all_goals first | with_reducible rfl | (rw [if_neg (by omega)]; done) | (rw [if_pos (by omega)]; done)
      try simp only [List.getElem_toArray, List.getElem_cons_zero, List.getElem_cons_succ, Act.put, List.setIfInBounds_toArray, List.set_cons_zero, List.set_cons_succ]
      refine wpAnyH_take (i := 11) (v := ?_) rfl (by kernel_rfl) (by kernel_rfl) (by kernel_rfl) (fun _ _ _ h => h) (Or.inl ⟨by rfl, ?_⟩) (by assumption) ?_
      rotate_left 1
      · intro w' hSw
        obtain ⟨p0, p1⟩ := cells2b16 (B7.out.turn hSw (fun h => h))
        go_simp
        all_goals first | with_reducible rfl | (rw [if_neg (by omega)]; done) | (rw [if_pos (by omega)]; done)
      try simp only [List.getElem_toArray, List.getElem_cons_zero, List.getElem_cons_succ, Act.put, List.setIfInBounds_toArray, List.set_cons_zero, List.set_cons_succ]
      refine wpAnyH_take (i := 12) (v := ?_) rfl (by kernel_rfl) (by kernel_rfl) (by kernel_rfl) (fun _ _ _ h => h) (Or.inl ⟨by rfl, ?_⟩) (by assumption) ?_
      rotate_left 1
      · intro w' hSw
        obtain ⟨u0, u1, u2, _⟩ := cells3 (D7.out.turn hSw (fun h => h))
        go_simp
        all_goals first | with_reducible rfl | (rw [if_neg (by omega)]; done) | (rw [if_pos (by omega)]; done)
      try simp only [List.getElem_toArray, List.getElem_cons_zero, List.getElem_cons_succ, Act.put, List.setIfInBounds_toArray, List.set_cons_zero, List.set_cons_succ]
      refine wpAnyH_take (i := 13) (v := ?_) rfl (by kernel_rfl) (by kernel_rfl) (by kernel_rfl) (fun _ _ _ h => h) (Or.inl ⟨by rfl, ?_⟩) (by assumption) ?_
      rotate_left 1
      · intro w' hSw
        go_simp
        all_goals first | with_reducible rfl | (rw [if_neg (by omega)]; done) | (rw [if_pos (by omega)]; done)
      try simp only [List.getElem_toArray, List.getElem_cons_zero, List.getElem_cons_succ, Act.put, List.setIfInBounds_toArray, List.set_cons_zero, List.set_cons_succ]
      refine wpAnyH_ready (rs := [10]) (by kernel_rfl) (by simp) ?_
      refine AllReadyH.cons rfl (fun K hK => ?_) AllReadyH.nil
      refine step_call_on 30 Try.f30 _ _ rfl Try.func30 (by kernel_rfl) (by kernel_rfl) _ _ ((HS9.out _ _ _ _ _ (SP7.out.1.still V0.out) SP7.out.2 (T7.out.trans V0.out)).mono fun e W' h => (⟨_, h.1, rfl, h.2⟩ : ∃ v, e = .returned v ∧ v = _ ∧ Turn (fun _ => False) _ W')) (by go_simp) (by rfl) ?_
      rintro v9 w31 ⟨rfl, ht9⟩
      have U31 := Lib.hid (V0.out.trans ht9)
      clear ht9
      refine hK.out _ _ U31.out (fun hHeld => ?_)
      clear hHeld hK K
      try simp only [List.getElem_toArray, List.getElem_cons_zero, List.getElem_cons_succ, Act.put, List.setIfInBounds_toArray, List.set_cons_zero, List.set_cons_succ]
      refine wpAnyH_ready (rs := [14]) (by kernel_rfl) (by simp) ?_
      refine AllReadyH.cons rfl (fun K hK => ?_) AllReadyH.nil
      refine step_call_on 33 Try.f33 _ _ rfl Try.func33 (by kernel_rfl) (by kernel_rfl) _ _ ((HR9.out _ (T7.out.trans U31.out)).mono fun e W' h => (⟨_, h.1, rfl, h.2⟩ : ∃ v, e = .returned v ∧ v = _ ∧ Turn (fun _ => False) _ W')) (by go_simp) (by rfl) ?_
      rintro v9 w32 ⟨rfl, ht9⟩
      have U32 := Lib.hid (U31.out.trans ht9)
      clear ht9
      refine hK.out _ _ U32.out (fun hHeld => ?_)
      clear hHeld hK K
      try simp only [List.getElem_toArray, List.getElem_cons_zero, List.getElem_cons_succ, Act.put, List.setIfInBounds_toArray, List.set_cons_zero, List.set_cons_succ]
      refine wpAnyH_take (i := 15) (v := .bool true) rfl (by kernel_rfl) (by kernel_rfl) (by kernel_rfl) (fun _ _ _ h => h) (Or.inl ⟨by rfl, ?_⟩) (by assumption) ?_
      · intro w' hSw
        go_simp
        all_goals first | (cases sv <;> rfl) | with_reducible rfl | (rw [if_neg (by omega)]; done) | (rw [if_pos (by omega)]; done)
      try simp only [List.getElem_toArray, List.getElem_cons_zero, List.getElem_cons_succ, Act.put, List.setIfInBounds_toArray, List.set_cons_zero, List.set_cons_succ]
      refine wpAnyH_take (i := 16) (v := ?_) rfl (by kernel_rfl) (by kernel_rfl) (by kernel_rfl) (fun _ _ _ h => h) (Or.inl ⟨by rfl, ?_⟩) (by assumption) ?_
      rotate_left 1
      · intro w' hSw
        go_simp
        all_goals first | with_reducible rfl | (rw [if_neg (by omega)]; done) | (rw [if_pos (by omega)]; done)
      try simp only [List.getElem_toArray, List.getElem_cons_zero, List.getElem_cons_succ, Act.put, List.setIfInBounds_toArray, List.set_cons_zero, List.set_cons_succ]
      refine wpAnyH_take (i := 17) (v := ?_) rfl (by kernel_rfl) (by kernel_rfl) (by kernel_rfl) (fun _ _ _ h => h) (Or.inl ⟨by rfl, ?_⟩) (by assumption) ?_
      rotate_left 1
      · intro w' hSw
        go_simp
        all_goals first | with_reducible rfl | (rw [if_neg (by omega)]; done) | (rw [if_pos (by omega)]; done)
      try simp only [List.getElem_toArray, List.getElem_cons_zero, List.getElem_cons_succ, Act.put, List.setIfInBounds_toArray, List.set_cons_zero, List.set_cons_succ]
      refine wpAnyH_ready (rs := [18]) (by kernel_rfl) (by simp) ?_
      refine AllReadyH.cons rfl (fun K hK => ?_) AllReadyH.nil
      refine step_call_on 17 Try.f17 _ _ rfl Try.func17 (by kernel_rfl) (by kernel_rfl) _ _ ((lives_16 _).mono fun e W' h => (⟨_, h.1, rfl, h.2⟩ : ∃ v, e = .returned v ∧ v = _ ∧ Turn (fun _ => False) _ W')) (by go_simp) (by rfl) ?_
      rintro v9 w33 ⟨rfl, ht9⟩
      have U33 := Lib.hid (U32.out.trans ht9)
      clear ht9
      refine hK.out _ _ U33.out (fun hHeld => ?_)
      clear hHeld hK K
      try simp only [List.getElem_toArray, List.getElem_cons_zero, List.getElem_cons_succ, Act.put, List.setIfInBounds_toArray, List.set_cons_zero, List.set_cons_succ]
      refine wpAnyH_take (i := 19) (v := ?_) rfl (by kernel_rfl) (by kernel_rfl) (by kernel_rfl) (fun _ _ _ h => h) (Or.inl ⟨by rfl, ?_⟩) (by assumption) ?_
      rotate_left 1
      · intro w' hSw
        go_simp
        all_goals first | with_reducible rfl | (rw [if_neg (by omega)]; done) | (rw [if_pos (by omega)]; done)
      try simp only [List.getElem_toArray, List.getElem_cons_zero, List.getElem_cons_succ, Act.put, List.setIfInBounds_toArray, List.set_cons_zero, List.set_cons_succ]
      refine wpAnyH_take (i := 20) (v := ?_) rfl (by kernel_rfl) (by kernel_rfl) (by kernel_rfl) (fun _ _ _ h => h) (Or.inl ⟨by rfl, ?_⟩) (by assumption) ?_
      rotate_left 1
      · intro w' hSw
        go_simp
        all_goals first | with_reducible rfl | (rw [if_neg (by omega)]; done) | (rw [if_pos (by omega)]; done)
      try simp only [List.getElem_toArray, List.getElem_cons_zero, List.getElem_cons_succ, Act.put, List.setIfInBounds_toArray, List.set_cons_zero, List.set_cons_succ]
      refine wpAnyH_done (by kernel_rfl) ?_ _
      refine NoPanic.normal ?_
      have T10 := Lib.hid (T7.out.trans U33.out)
      go_wp2_with fail
      go_ret
      exact ⟨by first | rfl | (simp; done), T10.out⟩
    · have HR2 : Hid (∀ X, Turn (fun _ => False) w X → Calls Try.prog 31 #[.slice A3 n c3, .int .i64 1000, .int .i64 0] X fun e w' => e = .returned (.tuple #[.agg #[.slice none 0 0, .int .i64 0, .int .i64 0], .int .i64 4]) ∧ Turn (fun _ => False) X w') := Lib.hid (fun X hX => (HRF.out X hX).mono fun e w' ⟨h1, h2⟩ => by
        rcases h1 with ⟨_, h4, _⟩ | ⟨_, h1⟩
        · exact absurd h4 hok
        · exact ⟨h1, h2⟩)
      have hb3 : M.length ≤ 10000000 ∧ ∀ p ∈ M, p.1.vs.length ≤ 1000000000000000 ∧ p.1.k.size ≤ maxLen := ⟨by rw [HN.out]; omega, fun p hp => ⟨by have := HZ3.out p hp; omega, (HIX.out.2 p hp).1⟩⟩
      have HLD : Hid (∀ X, Turn (fun _ => False) w X → Calls Try.prog 32 #[.slice A3 n c3, .int .i64 1000, .int .i64 0] X fun e w' => e = .returned (.tuple #[.pointer none, .int .i64 4]) ∧ Turn (fun _ => False) X w') := Lib.hid (fun X hX => (load_14 M _ 1000 0 X (HIX.out.1.still hX) hb3 (fun h => absurd h hok) (fun p hp A n c e => (HIX.out.2 p hp).2 A n c e) (by omega)).mono fun e w' ⟨h1, h2⟩ => by
        rcases h1 with ⟨h1, _⟩ | ⟨_, h1⟩
        · exact absurd h1 hok
        · exact ⟨h1, h2⟩)
      clear HRF hok hb3 HST HRS HIX HZ3 HN
      go_enter Try.func6, Try.ntmps6
      go_upto_region 3 with (first | (go_at_call 16; refine (HFW.out _).mono ?_; rintro e w2 ⟨rfl, t2⟩; have T2 := Lib.hid (T1.out.trans t2); obtain ⟨y0, y1⟩ := cells2b16 (B1.out.turn t2 (fun h => h)); have B2 := Lib.hid (B1.out.turn t2 (fun h => h)); clear t2 x0 x1))
      have U0 : Hid (Turn (fun _ => False) w2 w2.drew) := Lib.hid (Turn.refl _ _).drew
      refine wp_region_noPanic ?_
      refine wp_region_held_drew (S := (fun X => Turn (fun _ => False) w2 X)) (by kernel_rfl) U0.out (fun hHeld => ?_)
      clear hHeld
      refine wpAnyH_take (i := 0) (v := ?_) rfl (by kernel_rfl) (by kernel_rfl) (by kernel_rfl) (fun _ _ _ h => h) (Or.inl ⟨by rfl, ?_⟩) (by assumption) ?_
      rotate_left 1
      · intro w' hSw
        obtain ⟨p0, p1⟩ := cells2b16 (B2.out.turn hSw (fun h => h))
        go_simp
        all_goals first | with_reducible rfl | (rw [if_neg (by omega)]; done) | (rw [if_pos (by omega)]; done)
      try simp only [List.getElem_toArray, List.getElem_cons_zero, List.getElem_cons_succ, Act.put, List.setIfInBounds_toArray, List.set_cons_zero, List.set_cons_succ]
      refine wpAnyH_take (i := 1) (v := ?_) rfl (by kernel_rfl) (by kernel_rfl) (by kernel_rfl) (fun _ _ _ h => h) (Or.inl ⟨by rfl, ?_⟩) (by assumption) ?_
      rotate_left 1
      · intro w' hSw
        go_simp
        all_goals first | with_reducible rfl | (rw [if_neg (by omega)]; done) | (rw [if_pos (by omega)]; done)
      try simp only [List.getElem_toArray, List.getElem_cons_zero, List.getElem_cons_succ, Act.put, List.setIfInBounds_toArray, List.set_cons_zero, List.set_cons_succ]
      refine wpAnyH_take (i := 3) (v := ?_) rfl (by kernel_rfl) (by kernel_rfl) (by kernel_rfl) (fun _ _ _ h => h) (Or.inl ⟨by rfl, ?_⟩) (by assumption) ?_
      rotate_left 1
      · intro w' hSw
        obtain ⟨p0, p1⟩ := cells2b16 (B2.out.turn hSw (fun h => h))
        go_simp
        all_goals first | with_reducible rfl | (rw [if_neg (by omega)]; done) | (rw [if_pos (by omega)]; done)
      try simp only [List.getElem_toArray, List.getElem_cons_zero, List.getElem_cons_succ, Act.put, List.setIfInBounds_toArray, List.set_cons_zero, List.set_cons_succ]
      refine wpAnyH_take (i := 4) (v := ?_) rfl (by kernel_rfl) (by kernel_rfl) (by kernel_rfl) (fun _ _ _ h => h) (Or.inl ⟨by rfl, ?_⟩) (by assumption) ?_
      rotate_left 1
      · intro w' hSw
        go_simp
        all_goals first | with_reducible rfl | (rw [if_neg (by omega)]; done) | (rw [if_pos (by omega)]; done)
      try simp only [List.getElem_toArray, List.getElem_cons_zero, List.getElem_cons_succ, Act.put, List.setIfInBounds_toArray, List.set_cons_zero, List.set_cons_succ]
      refine wpAnyH_ready (rs := [2]) (by kernel_rfl) (by simp) ?_
      refine AllReadyH.cons rfl (fun K hK => ?_) AllReadyH.nil
      refine step_call rfl 26 Try.f26 _ _ rfl Try.func26 (by kernel_rfl) (by kernel_rfl) _ _ ((HCO.out _ (T2.out.trans U0.out)).mono fun e W' h => (⟨_, h.1, rfl, h.2⟩ : ∃ v, e = .returned v ∧ v = _ ∧ Turn (fun _ => False) _ W')) (by go_simp) ?_
      rintro v9 w21 ⟨rfl, ht9⟩
      have U21 := Lib.hid (U0.out.trans ht9)
      clear ht9
      refine hK.out _ _ U21.out (fun hHeld => ?_)
      clear hHeld hK K
      try simp only [List.getElem_toArray, List.getElem_cons_zero, List.getElem_cons_succ, Act.put, List.setIfInBounds_toArray, List.set_cons_zero, List.set_cons_succ]
      refine wpAnyH_ready (rs := [5]) (by kernel_rfl) (by simp) ?_
      refine AllReadyH.cons rfl (fun K hK => ?_) AllReadyH.nil
      refine step_call rfl 27 Try.f27 _ _ rfl Try.func27 (by kernel_rfl) (by kernel_rfl) _ _ ((HRC.out _ (T2.out.trans U21.out)).mono fun e W' h => (⟨_, h.1, rfl, h.2⟩ : ∃ v, e = .returned v ∧ v = _ ∧ Turn (fun _ => False) _ W')) (by go_simp) ?_
      rintro v9 w22 ⟨rfl, ht9⟩
      have U22 := Lib.hid (U21.out.trans ht9)
      clear ht9
      refine hK.out _ _ U22.out (fun hHeld => ?_)
      clear hHeld hK K
      try simp only [List.getElem_toArray, List.getElem_cons_zero, List.getElem_cons_succ, Act.put, List.setIfInBounds_toArray, List.set_cons_zero, List.set_cons_succ]
      refine wpAnyH_take (i := 6) (v := .bool false) rfl (by kernel_rfl) (by kernel_rfl) (by kernel_rfl) (fun _ _ _ h => h) (Or.inl ⟨by rfl, ?_⟩) (by assumption) ?_
      · intro w' hSw
        go_simp
        all_goals first | (cases b1 <;> rfl) | with_reducible rfl | (rw [if_neg (by omega)]; done) | (rw [if_pos (by omega)]; done)
      try simp only [List.getElem_toArray, List.getElem_cons_zero, List.getElem_cons_succ, Act.put, List.setIfInBounds_toArray, List.set_cons_zero, List.set_cons_succ]
      refine wpAnyH_take (i := 7) (v := ?_) rfl (by kernel_rfl) (by kernel_rfl) (by kernel_rfl) (fun _ _ _ h => h) (Or.inl ⟨by rfl, ?_⟩) (by assumption) ?_
      rotate_left 1
      · intro w' hSw
        go_simp
        all_goals first | with_reducible rfl | (rw [if_neg (by omega)]; done) | (rw [if_pos (by omega)]; done)
      try simp only [List.getElem_toArray, List.getElem_cons_zero, List.getElem_cons_succ, Act.put, List.setIfInBounds_toArray, List.set_cons_zero, List.set_cons_succ]
      refine wpAnyH_take (i := 8) (v := ?_) rfl (by kernel_rfl) (by kernel_rfl) (by kernel_rfl) (fun _ _ _ h => h) (Or.inl ⟨by rfl, ?_⟩) (by assumption) ?_
      rotate_left 1
      · intro w' hSw
        obtain ⟨p0, p1⟩ := cells2b16 (B2.out.turn hSw (fun h => h))
        go_simp
        all_goals first | with_reducible rfl | (rw [if_neg (by omega)]; done) | (rw [if_pos (by omega)]; done)
      try simp only [List.getElem_toArray, List.getElem_cons_zero, List.getElem_cons_succ, Act.put, List.setIfInBounds_toArray, List.set_cons_zero, List.set_cons_succ]
      refine wpAnyH_take (i := 9) (v := ?_) rfl (by kernel_rfl) (by kernel_rfl) (by kernel_rfl) (fun _ _ _ h => h) (Or.inl ⟨by rfl, ?_⟩) (by assumption) ?_
      rotate_left 1
      · intro w' hSw
        go_simp
        all_goals first | with_reducible rfl | (rw [if_neg (by omega)]; done) | (rw [if_pos (by omega)]; done)
      try simp only [List.getElem_toArray, List.getElem_cons_zero, List.getElem_cons_succ, Act.put, List.setIfInBounds_toArray, List.set_cons_zero, List.set_cons_succ]
      refine wpAnyH_take (i := 11) (v := ?_) rfl (by kernel_rfl) (by kernel_rfl) (by kernel_rfl) (fun _ _ _ h => h) (Or.inl ⟨by rfl, ?_⟩) (by assumption) ?_
      rotate_left 1
      · intro w' hSw
        obtain ⟨p0, p1⟩ := cells2b16 (B2.out.turn hSw (fun h => h))
        go_simp
        all_goals first | with_reducible rfl | (rw [if_neg (by omega)]; done) | (rw [if_pos (by omega)]; done)
      try simp only [List.getElem_toArray, List.getElem_cons_zero, List.getElem_cons_succ, Act.put, List.setIfInBounds_toArray, List.set_cons_zero, List.set_cons_succ]
      refine wpAnyH_take (i := 12) (v := ?_) rfl (by kernel_rfl) (by kernel_rfl) (by kernel_rfl) (fun _ _ _ h => h) (Or.inl ⟨by rfl, ?_⟩) (by assumption) ?_
      rotate_left 1
      · intro w' hSw
        go_simp
        all_goals first | with_reducible rfl | (rw [if_neg (by omega)]; done) | (rw [if_pos (by omega)]; done)
      try simp only [List.getElem_toArray, List.getElem_cons_zero, List.getElem_cons_succ, Act.put, List.setIfInBounds_toArray, List.set_cons_zero, List.set_cons_succ]
      refine wpAnyH_ready (rs := [10]) (by kernel_rfl) (by simp) ?_
      refine AllReadyH.cons rfl (fun K hK => ?_) AllReadyH.nil
      refine step_call_on 28 Try.f28 _ _ rfl Try.func28 (by kernel_rfl) (by kernel_rfl) _ _ ((HHI.out _ (T2.out.trans U22.out)).mono fun e W' h => (⟨_, h.1, rfl, h.2⟩ : ∃ v, e = .returned v ∧ v = _ ∧ Turn (fun _ => False) _ W')) (by go_simp) (by rfl) ?_
      rintro v9 w23 ⟨rfl, ht9⟩
      have U23 := Lib.hid (U22.out.trans ht9)
      clear ht9
      refine hK.out _ _ U23.out (fun hHeld => ?_)
      clear hHeld hK K
      try simp only [List.getElem_toArray, List.getElem_cons_zero, List.getElem_cons_succ, Act.put, List.setIfInBounds_toArray, List.set_cons_zero, List.set_cons_succ]
      refine wpAnyH_ready (rs := [13]) (by kernel_rfl) (by simp) ?_
      refine AllReadyH.cons rfl (fun K hK => ?_) AllReadyH.nil
      refine step_call_on 29 Try.f29 _ _ rfl Try.func29 (by kernel_rfl) (by kernel_rfl) _ _ ((HRH.out _ (T2.out.trans U23.out)).mono fun e W' h => (⟨_, h.1, rfl, h.2⟩ : ∃ v, e = .returned v ∧ v = _ ∧ Turn (fun _ => False) _ W')) (by go_simp) (by rfl) ?_
      rintro v9 w24 ⟨rfl, ht9⟩
      have U24 := Lib.hid (U23.out.trans ht9)
      clear ht9
      refine hK.out _ _ U24.out (fun hHeld => ?_)
      clear hHeld hK K
      try simp only [List.getElem_toArray, List.getElem_cons_zero, List.getElem_cons_succ, Act.put, List.setIfInBounds_toArray, List.set_cons_zero, List.set_cons_succ]
      refine wpAnyH_take (i := 14) (v := .bool false) rfl (by kernel_rfl) (by kernel_rfl) (by kernel_rfl) (fun _ _ _ h => h) (Or.inl ⟨by rfl, ?_⟩) (by assumption) ?_
      · intro w' hSw
        go_simp
        all_goals first | (cases h1 <;> rfl) | with_reducible rfl | (rw [if_neg (by omega)]; done) | (rw [if_pos (by omega)]; done)
      try simp only [List.getElem_toArray, List.getElem_cons_zero, List.getElem_cons_succ, Act.put, List.setIfInBounds_toArray, List.set_cons_zero, List.set_cons_succ]
      refine wpAnyH_take (i := 15) (v := ?_) rfl (by kernel_rfl) (by kernel_rfl) (by kernel_rfl) (fun _ _ _ h => h) (Or.inl ⟨by rfl, ?_⟩) (by assumption) ?_
      rotate_left 1
      · intro w' hSw
        go_simp
        all_goals first | with_reducible rfl | (rw [if_neg (by omega)]; done) | (rw [if_pos (by omega)]; done)
      try simp only [List.getElem_toArray, List.getElem_cons_zero, List.getElem_cons_succ, Act.put, List.setIfInBounds_toArray, List.set_cons_zero, List.set_cons_succ]
      refine wpAnyH_take (i := 16) (v := ?_) rfl (by kernel_rfl) (by kernel_rfl) (by kernel_rfl) (fun _ _ _ h => h) (Or.inl ⟨by rfl, ?_⟩) (by assumption) ?_
      rotate_left 1
      · intro w' hSw
        go_simp
        all_goals first | with_reducible rfl | (rw [if_neg (by omega)]; done) | (rw [if_pos (by omega)]; done)
      try simp only [List.getElem_toArray, List.getElem_cons_zero, List.getElem_cons_succ, Act.put, List.setIfInBounds_toArray, List.set_cons_zero, List.set_cons_succ]
      refine wpAnyH_take (i := 17) (v := ?_) rfl (by kernel_rfl) (by kernel_rfl) (by kernel_rfl) (fun _ _ _ h => h) (Or.inl ⟨by rfl, ?_⟩) (by assumption) ?_
      rotate_left 1
      · intro w' hSw
        obtain ⟨p0, p1⟩ := cells2b16 (B2.out.turn hSw (fun h => h))
        go_simp
        all_goals first | with_reducible rfl | (rw [if_neg (by omega)]; done) | (rw [if_pos (by omega)]; done)
      try simp only [List.getElem_toArray, List.getElem_cons_zero, List.getElem_cons_succ, Act.put, List.setIfInBounds_toArray, List.set_cons_zero, List.set_cons_succ]
      refine wpAnyH_take (i := 18) (v := ?_) rfl (by kernel_rfl) (by kernel_rfl) (by kernel_rfl) (fun _ _ _ h => h) (Or.inl ⟨by rfl, ?_⟩) (by assumption) ?_
      rotate_left 1
      · intro w' hSw
        go_simp
        all_goals first | with_reducible rfl | (rw [if_neg (by omega)]; done) | (rw [if_pos (by omega)]; done)
      try simp only [List.getElem_toArray, List.getElem_cons_zero, List.getElem_cons_succ, Act.put, List.setIfInBounds_toArray, List.set_cons_zero, List.set_cons_succ]
      refine wpAnyH_ready (rs := [19]) (by kernel_rfl) (by simp) ?_
      refine AllReadyH.cons rfl (fun K hK => ?_) AllReadyH.nil
      refine step_call_on 30 Try.f30 _ _ rfl Try.func30 (by kernel_rfl) (by kernel_rfl) _ _ ((HS0.out _ (T2.out.trans U24.out)).mono fun e W' h => (⟨_, h.1, rfl, h.2⟩ : ∃ v, e = .returned v ∧ v = _ ∧ Turn (fun _ => False) _ W')) (by go_simp) (by rfl) ?_
      rintro v9 w25 ⟨rfl, ht9⟩
      have U25 := Lib.hid (U24.out.trans ht9)
      clear ht9
      refine hK.out _ _ U25.out (fun hHeld => ?_)
      clear hHeld hK K
      try simp only [List.getElem_toArray, List.getElem_cons_zero, List.getElem_cons_succ, Act.put, List.setIfInBounds_toArray, List.set_cons_zero, List.set_cons_succ]
      refine wpAnyH_take (i := 20) (v := ?_) rfl (by kernel_rfl) (by kernel_rfl) (by kernel_rfl) (fun _ _ _ h => h) (Or.inl ⟨by rfl, ?_⟩) (by assumption) ?_
      rotate_left 1
      · intro w' hSw
        go_simp
        all_goals first | with_reducible rfl | (rw [if_neg (by omega)]; done) | (rw [if_pos (by omega)]; done)
      try simp only [List.getElem_toArray, List.getElem_cons_zero, List.getElem_cons_succ, Act.put, List.setIfInBounds_toArray, List.set_cons_zero, List.set_cons_succ]
      refine wpAnyH_done (by kernel_rfl) ?_ _
      refine NoPanic.normal ?_
      have T5 := Lib.hid (T2.out.trans U25.out)
      have B5 := Lib.hid (B2.out.turn U25.out (fun h => h))
      clear y0 y1
      go_wp2_with (first
        | (go_at_call 17; refine (lives_16 _).mono ?_; rintro e w9 ⟨rfl, t9⟩; have T9 := Lib.hid (T7.out.trans t9); clear t9)
        | (go_at_call 32; refine (HLD.out _ T6.out).mono ?_; rintro e w7 ⟨rfl, t7⟩; have T7 := Lib.hid (T6.out.trans t7); clear t7)
        | (go_at_call 31; refine (HR2.out _ T5.out).mono ?_; rintro e w6 ⟨rfl, t6⟩; have T6 := Lib.hid ((T5.out.trans t6).alloc (.cells #[.slice none 0 0, .int .i64 0, .int .i64 0] 66)); clear t6))
      go_ret
      exact ⟨rfl, T9.out⟩
theorem readsMeet_walk (K : List ByteArray) (S : List Pq2) (A1 : Option Addr) (n1 c1 : Nat) (A2 : Option Addr) (n2 c2 : Nat) (key : ByteArray) (v4 : Value) (C : List Cg) (v3 : Value) (M : List (Itm × Value)) (t : Int) (w : World)
    (hk : Kx w (.slice A1 n1 c1) K) (hs : Px w (.slice A2 n2 c2) S) (_ : n1 ≤ c1) (_ : n2 ≤ c2) (hz : (∀ k ∈ K, k.size ≤ 140737488351232) ∧ ∀ s ∈ S, s.k.size ≤ 140737488351232 ∧ s.v.size ≤ 140737488351232) (hzz : key.size ≤ 140737488351232) (hc : Cx w v4 C) (hzc : ∀ c ∈ C, c.k.size ≤ 140737488351232) (hA : Ix14 w v3 M) (hz3 : ∀ p ∈ M, p.1.vs.length ≤ 140737488351232) (h2 : (Lit.int .i64 t).wf = true) :
    Calls Try.prog 6 #[.agg #[.slice A1 n1 c1, .slice A2 n2 c2], .string key, v4, v3, .int .i64 t] w fun r w' => r = .returned (.bool true) ∧ Below w.heap.size w w' := by
  obtain ⟨A3, c3, rfl, _⟩ := id hA.1
  obtain ⟨A4, c4, rfl, _⟩ := id hc
  exact (readsMeet_of K S A1 n1 c1 A2 n2 c2 key A4 _ c4 C A3 _ c3 M t w hk hs hz.1 hz.2 hzz hc hzc hA hz3).mono fun e w' ⟨he, ht⟩ => ⟨he, ht.below (Nat.le_refl _) (fun _ h => h.elim)⟩
end Go.Proofs.Ytjkfgbmlhglnfaa
