/- Layer 16, plain: what Stale tells, and what it tells behind changes. -/
import Derived.Test.YtjkfgbmlhglnfaaRdG
import Derived.Test.YtjkfgbmlhglnfaaSpAd
import Derived.Test.YtjkfgbmlhglnfaaSpU
namespace Go.Proofs.Ytjkfgbmlhglnfaa
open Go.RowKit Go.Shelf
set_option linter.unusedVariables false
set_option linter.unusedSimpArgs false
set_option maxRecDepth 100000

theorem bl_nul : ∀ x k : List UInt8, (!Op.bytesLess x k && Op.bytesLess x (k ++ [0])) = (x == k)
  | [], [] => rfl
  | [], b :: k => by rw [bl_nil_left]; simp
  | a :: x, [] => by
    rw [bl_nil_right, List.nil_append, bl_cons, bl_nil_right]
    have : ¬ a < 0 := by simp
    simp
  | a :: x, b :: k => by
    by_cases h : a = b
    · subst h
      rw [List.cons_append, bl_same, bl_same, bl_nul x k]
      simp
    · rw [List.cons_append, bl_ne_head h, bl_ne_head h]
      have : ((a :: x) == (b :: k)) = false := by rw [beq_eq_false_iff_ne]; intro e; injection e with e _; exact h e
      rw [this]
      cases decide (a.toNat < b.toNat) <;> rfl
/-- A text with a nought behind. -/
abbrev nul16 (k : ByteArray) : ByteArray := k ++ ⟨#[0]⟩
theorem win_nul (x k : ByteArray) : win x k (nul16 k) = (x.toList == k.toList) := by
  unfold win nul16
  have he : (k ++ (⟨#[0]⟩ : ByteArray)).toList = k.data.toList ++ [0] := by rw [ByteArray.toList_eq, ByteArray.data_append, Array.toList_append]
  have h1 : lt14 x (k ++ ⟨#[0]⟩) = Op.bytesLess x.data.toList (k.data.toList ++ [0]) := by unfold lt14; rw [ByteArray.data_append, Array.toList_append]
  have h2 : ((k ++ (⟨#[0]⟩ : ByteArray)).toList).isEmpty = false := by rw [he]; cases k.data.toList <;> rfl
  rw [h1, h2, Bool.false_or, ByteArray.toList_eq, ByteArray.toList_eq, ← bl_nul]
  rfl
/-- What Stale asks: a test of spans. -/
def stl16 (K : List ByteArray) (S : List Pq2) (f : ByteArray → ByteArray → Bool) : Bool := K.any (fun k => f k (nul16 k)) || S.any (fun s => f s.k s.v)
theorem any_swap {α β : Type} (L : List α) (M : List β) (p : α → β → Bool) : L.any (fun a => M.any (p a)) = M.any (fun b => L.any (fun a => p a b)) := by
  rw [Bool.eq_iff_iff]
  simp only [List.any_eq_true]
  exact ⟨fun ⟨a, ha, b, hb, h⟩ => ⟨b, hb, a, ha, h⟩, fun ⟨b, hb, a, ha, h⟩ => ⟨a, ha, b, hb, h⟩⟩
theorem hasK_any {K : List ByteArray} (hr : risK K) (key : ByteArray) : hasK K key = K.any (fun k => key.toList == k.toList) := by
  rw [Bool.eq_iff_iff, hasK_mem hr, List.any_eq_true]
  exact ⟨fun h => ⟨key, h, by simp⟩, fun ⟨k, hk, e⟩ => by
    have e := eq_of_beq e
    rw [ByteArray.toList_eq, ByteArray.toList_eq] at e
    rwa [ba_ext e]⟩
/-- Stale, item by item. -/
noncomputable def stI16 (K : List ByteArray) (S : List Pq2) (I : List Itm) (t : Int) : Bool := I.any (fun x => cov16 K S x.k && snc x.vs t)
theorem stl_items {K : List ByteArray} (hr : risK K) (S : List Pq2) (M : List (Itm × Value)) (t : Int) : stl16 K S (fun a b => snc14 M a b t) = stI16 K S (M.map (fun p : Itm × Value => p.1)) t := by
  have hL : stI16 K S (M.map (fun p : Itm × Value => p.1)) t = M.any (fun p => (K.any (fun k => p.1.k.toList == k.toList) && snc p.1.vs t) || (spd16 S p.1.k && snc p.1.vs t)) := by
    unfold stI16
    rw [List.any_map]
    congr 1
    funext p
    simp only [Function.comp, cov16, hasK_any hr]
    cases snc p.1.vs t <;> simp
  rw [hL]
  unfold stl16 snc14
  rw [Bool.eq_iff_iff]
  simp only [Bool.or_eq_true, List.any_eq_true, Bool.and_eq_true, win_nul, spd16]
  exact ⟨fun h => by
      rcases h with ⟨k, hk, p, hp, h1, h2⟩ | ⟨s, hs, p, hp, h1, h2⟩
      · exact ⟨p, hp, .inl ⟨⟨k, hk, h1⟩, h2⟩⟩
      · exact ⟨p, hp, .inr ⟨⟨s, hs, h1⟩, h2⟩⟩,
    fun ⟨p, hp, h⟩ => by
      rcases h with ⟨⟨k, hk, h1⟩, h2⟩ | ⟨⟨s, hs, h1⟩, h2⟩
      · exact .inl ⟨k, hk, p, hp, h1, h2⟩
      · exact .inr ⟨s, hs, p, hp, h1, h2⟩⟩
theorem any_insR {z : Itm} {p : Itm → Bool} : ∀ {L : List Itm}, (∀ y ∈ L, (y.k.toList == z.k.toList) = true → p y = true → p z = true) → (insR z L).any p = (p z || L.any p)
  | [], _ => by simp [insR]
  | x :: L, h => by
    have ih := any_insR (z := z) (p := p) (L := L) (fun y hy => h y (by simp [hy]))
    rw [insR]
    cases h1 : lt14 x.k z.k with
    | true =>
      rw [if_pos rfl, List.any_cons, ih, List.any_cons]
      cases p x <;> cases p z <;> simp
    | false =>
      rw [if_neg (by simp)]
      cases h2 : (x.k.toList == z.k.toList) with
      | true =>
        rw [if_pos rfl, List.any_cons, List.any_cons]
        cases hp : p x with
        | false => simp
        | true => rw [h x (by simp) h2 hp]; simp
      | false => rw [if_neg (by simp), List.any_cons, List.any_cons]
/-- Stale behind changes is Hit of these, or Stale ahead. -/
theorem stI_apl {I0 : List Itm} {last t u : Int} (h : Wf I0 last) (h0 : 0 ≤ last) (h1 : last < t) (h2 : t ≤ 1152921504606846976) (hu : u ≤ last) (K : List ByteArray) (S : List Pq2) :
    ∀ (n : Nat) (C : List Cg), C.length = n → (∀ x ∈ C, ok1 x = true) → stI16 K S (aplR I0 t C) u = (stI16 K S I0 u || C.any (fun c => cov16 K S c.k))
  | 0, C, hn, _ => by
    obtain rfl := List.eq_nil_of_length_eq_zero hn
    simp [aplR]
  | n + 1, C, hn, hC => by
    obtain ⟨C', x, rfl⟩ : ∃ C' x, C = C' ++ [x] := by
      have hne : C ≠ [] := fun e => by rw [e] at hn; simp at hn
      exact ⟨C.dropLast, C.getLast hne, (List.dropLast_concat_getLast hne).symm⟩
    rw [List.length_append, List.length_singleton] at hn
    have ih := stI_apl h h0 h1 h2 hu K S n C' (by omega) (fun y hy => hC y (by simp [hy]))
    have hx := hC x (by simp)
    obtain ⟨g1, g2⟩ := fnd_wf h x.k
    have hs : snc (⟨t, x.v, x.d⟩ :: fndI I0 x.k) u = true := by
      unfold snc
      rw [(chn_cons _ _).2 ⟨ok1_rt hx (by omega) h2, fun y hy => by have := g2 y hy; show y.t < t; omega, g1⟩]
      simp
      omega
    rw [aplR_snoc, add_ok h h0 h1 h2 hx]
    unfold stI16 at ih ⊢
    rw [any_insR (z := ⟨x.k, ⟨t, x.v, x.d⟩ :: fndI I0 x.k⟩) (p := fun x => cov16 K S x.k && snc x.vs u) (fun y _ hk hp => by
      simp only [Bool.and_eq_true] at hp ⊢
      have e := eq_of_beq hk
      rw [ByteArray.toList_eq, ByteArray.toList_eq] at e
      have h1 := hp.1
      rw [ba_ext e] at h1
      exact ⟨h1, hs⟩), ih]
    simp only [hs, Bool.and_true, List.any_append, List.any_cons, List.any_nil, Bool.or_false]
    cases cov16 K S x.k <;> cases I0.any (fun x => cov16 K S x.k && snc x.vs u) <;> simp
end Go.Proofs.Ytjkfgbmlhglnfaa
/- Layer 16: the program's Stale. -/
namespace Go.Proofs.Ytjkfgbmlhglnfaa
open Go.RowKit Go.Shelf
set_option linter.unusedVariables false
set_option linter.unusedSimpArgs false
set_option maxRecDepth 100000
attribute [local go_sem] Oper.semAt_some

/-- Since of a space, or of none, by a plain test. -/
def Snq (w : World) (v : Value) (t : Int) (f : ByteArray → ByteArray → Bool) : Prop := ∀ fa fb W, Turn (fun _ => False) w W → Calls Try.prog 73 #[v, .string fa, .string fb, .int .i64 t] W fun e w' => e = .returned (.bool (f fa fb)) ∧ Turn (fun _ => False) W w'
theorem Snq.still {w w' : World} {v : Value} {t : Int} {f : ByteArray → ByteArray → Bool} (h : Snq w v t f) (ht : Turn (fun _ => False) w w') : Snq w' v t f := fun fa fb W hW => h fa fb W (ht.trans hW)
theorem snq_sp {w : World} {q g : Nat} {vk : Value} {M : List (Itm × Value)} {last mark : Int} (h : Sp w q vk g M last mark) (hb : Bm 10000000 M) (t : Int) : Snq w (.pointer (some ⟨q, 0, none⟩)) t (fun a b => snc14 M a b t) := fun fa fb W hW => since_14 fa fb t (h.still hW) hb
theorem snq_nil (w : World) (t : Int) : Snq w (.pointer none) t (fun _ _ => false) := fun fa fb W hW => since_14n fa fb t (.inl rfl)
theorem stale1_16 (s : Pq2) (sb tb : Nat) (P : Option Addr) (t : Int) (f : ByteArray → ByteArray → Bool) (w : World) (h1 : Blk w sb 69 [.pointer P]) (h2 : Blk w tb 3 [.int .i64 t]) (hq : Snq w (.pointer P) t f) :
    Calls Try.prog 72 #[.agg #[.string s.k, .string s.v], .pointer (some ⟨sb, 0, none⟩), .pointer (some ⟨tb, 0, none⟩)] w fun e w' => e = .returned (.bool (f s.k s.v)) ∧ Turn (fun _ => False) w w' := by
  obtain ⟨sk, sv⟩ := s
  simp only
  have T1 := Lib.hid ((Turn.refl (fun _ => False) w).alloc (.cells #[.string sk, .string sv] 59))
  have c1 := (h1.alloc (.cells #[.string sk, .string sv] 59)).cell 0
  have c2 := (h2.alloc (.cells #[.string sk, .string sv] 59)).cell 0
  have l1 := h1.lt
  have l2 := h2.lt
  have HQ := Lib.hid hq
  clear h1 h2 hq
  go_enter Try.func72, Try.ntmps72
  go_wp2_with (go_at_call 73; refine (HQ.out sk sv _ T1.out).mono ?_; rintro e w3 ⟨rfl, ht3⟩; have T3 := Lib.hid (T1.out.trans ht3); clear ht3)
  go_ret
  exact ⟨rfl, T3.out⟩
theorem stale2_16 (k : ByteArray) (sb tb : Nat) (P : Option Addr) (t : Int) (f : ByteArray → ByteArray → Bool) (w : World) (h1 : Blk w sb 69 [.pointer P]) (h2 : Blk w tb 3 [.int .i64 t]) (hq : Snq w (.pointer P) t f) (hk : k.size ≤ 140737488351232) :
    Calls Try.prog 74 #[.string k, .pointer (some ⟨sb, 0, none⟩), .pointer (some ⟨tb, 0, none⟩)] w fun e w' => e = .returned (.bool (f k (nul16 k))) ∧ Turn (fun _ => False) w w' := by
  have c1 := h1.cell 0
  have c2 := h2.cell 0
  have l1 := h1.lt
  have l2 := h2.lt
  have HQ := Lib.hid hq
  clear h1 h2 hq
  go_enter Try.func74, Try.ntmps74
  go_wp2_with (go_at_call 73; refine (HQ.out k _ _ (Turn.refl _ _)).mono ?_; rintro e w3 ⟨rfl, ht3⟩; have T3 := Lib.hid ht3; clear ht3)
  go_ret
  exact ⟨rfl, T3.out⟩
set_option maxHeartbeats 4000000 in
theorem idxSt_16 (S : List Pq2) (u : Value) (sb tb : Nat) (P : Option Addr) (t : Int) (f : ByteArray → ByteArray → Bool) (w : World) (h : Px w u S) (h1 : Blk w sb 69 [.pointer P]) (h2 : Blk w tb 3 [.int .i64 t]) (hq : Snq w (.pointer P) t f) :
    Calls Try.prog 118 #[u, .func (.func 72) #[] #[.pointer (some ⟨sb, 0, none⟩), .pointer (some ⟨tb, 0, none⟩)]] w fun e w' => ∃ i : Int, e = .returned (.int .i64 i) ∧ decide (0 ≤ i) = S.any (fun s => f s.k s.v) ∧ Turn (fun _ => False) w w' := by
  obtain ⟨A, c, rfl, hl, hr⟩ := h
  obtain ⟨n, hn⟩ : ∃ n, S.length = n := ⟨_, rfl⟩
  have HN := Lib.hid hn
  have HR := Lib.hid hr
  have HFF0 := Lib.hid (fun y W (hW : Turn (fun _ => False) w W) => stale1_16 y sb tb P t f W (h1.turn hW (fun h => h)) (h2.turn hW (fun h => h)) (hq.still hW))
  rw [hn] at hl ⊢
  clear hn hr h1 h2 hq
  go_enter Try.func118, Try.ntmps118
  go_wp2_with fail
  go_loopw [5, 8] (fun _ v8 wr => ∃ i : Nat, i ≤ n ∧ v8 = .int .i64 i ∧ Hid (∀ (j : Nat) (y : Pq2), j < i → S[j]? = some y → f y.k y.v = false) ∧ Turn (fun _ => False) w wr) (fun _ v8 _ => n - (intOf v8).toNat)
  case atStart => exact ⟨0, Nat.zero_le _, rfl, Lib.hid (fun j y hj => by omega), Turn.refl _ _⟩
  case round =>
    obtain ⟨i, hi, rfl, HNO, ht⟩ := hrel
    obtain ⟨wx, rfl⟩ : ∃ W, W = wr := ⟨_, rfl⟩
    have TT := Lib.hid ht
    by_cases hlt : i < n
    · have hl1 : (i : Int) < (n : Int) := by omega
      have hl0 : (0 : Int) ≤ (i : Int) := by omega
      have hq := wrap_of ((i : Int) + 1) (by omega) (by omega)
      obtain ⟨y, hy⟩ : ∃ y, S[i]? = some y := ⟨_, List.getElem?_eq_getElem (by rw [HN.out]; exact hlt)⟩
      have HY := Lib.hid hy
      obtain ⟨b, o, rfl, hb, hc⟩ := HR.out (by rw [flat_len pc2_len, HN.out]; omega)
      have hcx : ∀ k, wx.cell? ⟨b, k, none⟩ = w.cell? ⟨b, k, none⟩ := fun k => World.cell?_of_block (w := w) (a := ⟨b, k, none⟩) (ht.block b hb (fun h => h))
      have c0 := hc _ _ (flat_at pc2_len S i 0 y hy (by decide))
      have c1 := hc _ _ (flat_at pc2_len S i 1 y hy (by decide))
      rw [← hcx] at c0 c1
      have HFF := Lib.hid (fun W hW => HFF0.out y W hW)
      have HKX := Lib.hid ht
      obtain ⟨yk, yv⟩ := y
      simp only [Nat.add_zero] at c0 c1 HFF
      rw [← Nat.add_assoc] at c1
      clear hy hb hc hcx ht
      cases hbg : f yk yv with
      | true =>
        rw [hbg] at HFF
        have HBG : Hid (S.any (fun s => f s.k s.v) = true) := Lib.hid (List.any_eq_true.2 ⟨_, List.mem_of_getElem? HY.out, hbg⟩)
        clear hbg
        go_wp2_with (go_at_call 72; refine (HFF.out _ HKX.out).mono ?_; rintro e w2 ⟨rfl, ht2⟩; have T2 := Lib.hid (TT.out.trans ht2); clear ht2)
        go_ret
        exact ⟨_, rfl, by rw [HBG.out]; simp, T2.out⟩
      | false =>
        rw [hbg] at HFF
        have HN2 : Hid (∀ (j : Nat) (y : Pq2), j < i + 1 → S[j]? = some y → f y.k y.v = false) := Lib.hid (fun j y hj hy => by
          by_cases h : j < i
          · exact HNO.out j y h hy
          · obtain rfl : j = i := by omega
            rw [HY.out] at hy
            cases hy
            exact hbg)
        clear hbg
        go_wp2_with (go_at_call 72; refine (HFF.out _ HKX.out).mono ?_; rintro e w2 ⟨rfl, ht2⟩; have T2 := Lib.hid (TT.out.trans ht2); clear ht2)
        go_roundw
        case rel => exact ⟨i + 1, by omega, by simp [hq], HN2, T2.out⟩
        case measure => simp [intOf, hq]; omega
    · obtain rfl : i = n := by omega
      have HE : Hid (S.any (fun s => f s.k s.v) = false) := Lib.hid (any_none_ (fun j y hj hy => HNO.out j y (by rw [← HN.out]; exact hj) hy))
      go_wp2_with fail
      go_ret
      exact ⟨_, rfl, by rw [HE.out]; simp, TT.out⟩
theorem csSt_16 (S : List Pq2) (u : Value) (sb tb : Nat) (P : Option Addr) (t : Int) (f : ByteArray → ByteArray → Bool) (w : World) (h : Px w u S) (h1 : Blk w sb 69 [.pointer P]) (h2 : Blk w tb 3 [.int .i64 t]) (hq : Snq w (.pointer P) t f) :
    Calls Try.prog 75 #[u, .func (.func 72) #[] #[.pointer (some ⟨sb, 0, none⟩), .pointer (some ⟨tb, 0, none⟩)]] w fun e w' => e = .returned (.bool (S.any (fun s => f s.k s.v))) ∧ Turn (fun _ => False) w w' := by
  have HI := Lib.hid (idxSt_16 S u sb tb P t f w h h1 h2 hq)
  obtain ⟨A, c, rfl, hl, hr⟩ := h
  go_enter Try.func75, Try.ntmps75
  go_wp2_with (go_at_call 118; refine HI.out.mono ?_; rintro e w2 ⟨i, rfl, hib, ht2⟩; have T2 := Lib.hid ht2; have HIB := Lib.hid hib; clear ht2 hib)
  go_ret
  exact ⟨by rw [← HIB.out]; rfl, T2.out⟩
set_option maxHeartbeats 4000000 in
theorem idxKt_16 (K : List ByteArray) (u : Value) (sb tb : Nat) (P : Option Addr) (t : Int) (f : ByteArray → ByteArray → Bool) (w : World) (h : Kx w u K) (h1 : Blk w sb 69 [.pointer P]) (h2 : Blk w tb 3 [.int .i64 t]) (hq : Snq w (.pointer P) t f) (hz : ∀ k ∈ K, k.size ≤ 140737488351232) :
    Calls Try.prog 108 #[u, .func (.func 74) #[] #[.pointer (some ⟨sb, 0, none⟩), .pointer (some ⟨tb, 0, none⟩)]] w fun e w' => ∃ i : Int, e = .returned (.int .i64 i) ∧ Fst (fun k => f k (nul16 k)) K i ∧ Turn (fun _ => False) w w' := by
  obtain ⟨A, c, rfl, hl, hr⟩ := h
  obtain ⟨n, hn⟩ : ∃ n, K.length = n := ⟨_, rfl⟩
  have HN := Lib.hid hn
  have HR := Lib.hid hr
  have HFF := Lib.hid (fun y (hy : y ∈ K) W (hW : Turn (fun _ => False) w W) => stale2_16 y sb tb P t f W (h1.turn hW (fun h => h)) (h2.turn hW (fun h => h)) (hq.still hW) (hz y hy))
  rw [hn] at hl ⊢
  clear hn hr h1 h2 hq hz
  go_enter Try.func108, Try.ntmps108
  go_wp2_with fail
  go_loopw [5, 8] (fun _ v8 wr => ∃ i : Nat, i ≤ n ∧ v8 = .int .i64 i ∧ Hid (∀ (j : Nat) (y : ByteArray), j < i → K[j]? = some y → f y (nul16 y) = false) ∧ Turn (fun _ => False) w wr) (fun _ v8 _ => n - (intOf v8).toNat)
  case atStart => exact ⟨0, Nat.zero_le _, rfl, Lib.hid (fun j y hj => by omega), Turn.refl _ _⟩
  case round =>
    obtain ⟨i, hi, rfl, HNO, ht⟩ := hrel
    obtain ⟨wx, rfl⟩ : ∃ W, W = wr := ⟨_, rfl⟩
    have TT := Lib.hid ht
    by_cases hlt : i < n
    · have hl1 : (i : Int) < (n : Int) := by omega
      have hl0 : (0 : Int) ≤ (i : Int) := by omega
      have hq := wrap_of ((i : Int) + 1) (by omega) (by omega)
      obtain ⟨y, hy⟩ : ∃ y, K[i]? = some y := ⟨_, List.getElem?_eq_getElem (by rw [HN.out]; exact hlt)⟩
      have HY := Lib.hid hy
      obtain ⟨b, o, rfl, hb, hc⟩ := HR.out (by rw [List.length_map, HN.out]; omega)
      have hcx : ∀ k, wx.cell? ⟨b, k, none⟩ = w.cell? ⟨b, k, none⟩ := fun k => World.cell?_of_block (w := w) (a := ⟨b, k, none⟩) (ht.block b hb (fun h => h))
      have c0 := hc i (.string y) (by rw [List.getElem?_map, hy]; rfl)
      rw [← hcx] at c0
      clear hy hb hc hcx ht
      cases hbg : f y (nul16 y) with
      | true =>
        have HF := Lib.hid (fun W hW => HFF.out y (List.mem_of_getElem? HY.out) W hW)
        rw [hbg] at HF
        have HBG := Lib.hid hbg
        clear hbg
        go_wp2_with (go_at_call 74; refine (HF.out _ TT.out).mono ?_; rintro e w2 ⟨rfl, ht2⟩; have T2 := Lib.hid (TT.out.trans ht2); clear ht2)
        go_ret
        exact ⟨_, rfl, Or.inr ⟨i, y, rfl, HY.out, HBG.out, fun l z hl hz => HNO.out l z hl hz⟩, T2.out⟩
      | false =>
        have HF := Lib.hid (fun W hW => HFF.out y (List.mem_of_getElem? HY.out) W hW)
        rw [hbg] at HF
        have HN2 : Hid (∀ (j : Nat) (y : ByteArray), j < i + 1 → K[j]? = some y → f y (nul16 y) = false) := Lib.hid (fun j z hj hz => by
          by_cases h : j < i
          · exact HNO.out j z h hz
          · obtain rfl : j = i := by omega
            rw [HY.out] at hz
            cases hz
            exact hbg)
        clear hbg
        go_wp2_with (go_at_call 74; refine (HF.out _ TT.out).mono ?_; rintro e w2 ⟨rfl, ht2⟩; have T2 := Lib.hid (TT.out.trans ht2); clear ht2)
        go_roundw
        case rel => exact ⟨i + 1, by omega, by simp [hq], HN2, T2.out⟩
        case measure => simp [intOf, hq]; omega
    · obtain rfl : i = n := by omega
      go_wp2_with fail
      go_ret
      exact ⟨_, rfl, Or.inl ⟨rfl, fun j k hk => HNO.out j k (by rw [← HN.out]; exact (List.getElem?_eq_some_iff.1 hk).1) hk⟩, TT.out⟩
theorem csKt_16 (K : List ByteArray) (u : Value) (sb tb : Nat) (P : Option Addr) (t : Int) (f : ByteArray → ByteArray → Bool) (w : World) (h : Kx w u K) (h1 : Blk w sb 69 [.pointer P]) (h2 : Blk w tb 3 [.int .i64 t]) (hq : Snq w (.pointer P) t f) (hz : ∀ k ∈ K, k.size ≤ 140737488351232) :
    Calls Try.prog 67 #[u, .func (.func 74) #[] #[.pointer (some ⟨sb, 0, none⟩), .pointer (some ⟨tb, 0, none⟩)]] w fun e w' => e = .returned (.bool (K.any (fun k => f k (nul16 k)))) ∧ Turn (fun _ => False) w w' := by
  have HI := Lib.hid (idxKt_16 K u sb tb P t f w h h1 h2 hq hz)
  obtain ⟨A, c, rfl, hl, hr⟩ := h
  go_enter Try.func67, Try.ntmps67
  go_wp2_with (go_at_call 108; refine HI.out.mono ?_; rintro e w2 ⟨i, rfl, hib, ht2⟩; have T2 := Lib.hid ht2; have HIB := Lib.hid hib; clear ht2 hib)
  go_ret
  exact ⟨by rw [← HIB.out.any]; rfl, T2.out⟩
end Go.Proofs.Ytjkfgbmlhglnfaa
/- Layer 16: the program's Stale, whole. -/
namespace Go.Proofs.Ytjkfgbmlhglnfaa
open Go.RowKit Go.Shelf
set_option linter.unusedVariables false
set_option linter.unusedSimpArgs false
set_option maxRecDepth 100000
attribute [local go_sem] Oper.semAt_some

set_option maxHeartbeats 8000000 in
theorem stale_16 (K : List ByteArray) (S : List Pq2) (A1 : Option Addr) (n1 c1 : Nat) (A2 : Option Addr) (n2 c2 : Nat) (P : Option Addr) (t : Int) (f : ByteArray → ByteArray → Bool) (w : World) (hk : Kx w (.slice A1 n1 c1) K) (hs : Px w (.slice A2 n2 c2) S) (hq : Snq w (.pointer P) t f) (hz : ∀ k ∈ K, k.size ≤ 140737488351232) :
    Calls Try.prog 30 #[.agg #[.slice A1 n1 c1, .slice A2 n2 c2], .pointer P, .int .i64 t] w fun e w' => e = .returned (.bool (rgb16 K S && stl16 K S f)) ∧ Turn (fun _ => False) w w' := by
  have HCH := Lib.hid (fun W (hW : Turn (fun _ => False) w W) => check_16 K S A1 n1 c1 A2 n2 c2 W (hk.still hW) (hs.still hW))
  have HKT := Lib.hid (fun sb tb W (hW : Turn (fun _ => False) w W) (h1 : Blk W sb 69 [.pointer P]) (h2 : Blk W tb 3 [.int .i64 t]) => csKt_16 K _ sb tb P t f W (hk.still hW) h1 h2 (hq.still hW) hz)
  have HST := Lib.hid (fun sb tb W (hW : Turn (fun _ => False) w W) (h1 : Blk W sb 69 [.pointer P]) (h2 : Blk W tb 3 [.int .i64 t]) => csSt_16 S _ sb tb P t f W (hs.still hW) h1 h2 (hq.still hW))
  obtain ⟨W3, hW3⟩ : ∃ W, ((w.alloc (.cells #[.slice A1 n1 c1, .slice A2 n2 c2] 46)).alloc (.cells #[.pointer P] 69)).alloc (.cells #[.int .i64 t] 3) = W := ⟨_, rfl⟩
  have T3 : Hid (Turn (fun _ => False) w W3) := Lib.hid (hW3 ▸ (((Turn.refl _ _).alloc _).alloc _).alloc _)
  have B0 : Hid (Blk W3 w.heap.size 46 [.slice A1 n1 c1, .slice A2 n2 c2]) := Lib.hid (hW3 ▸ ((Blk.new _ _ _).alloc _).alloc _)
  have B1 : Hid (Blk W3 (w.heap.size + 1) 69 [.pointer P]) := Lib.hid (hW3 ▸ by
    have := ((Blk.new (w.alloc (.cells #[.slice A1 n1 c1, .slice A2 n2 c2] 46)) 69 [.pointer P]).alloc (.cells #[.int .i64 t] 3))
    simpa using this)
  have B2 : Hid (Blk W3 (w.heap.size + 2) 3 [.int .i64 t]) := Lib.hid (hW3 ▸ by
    have := Blk.new ((w.alloc (.cells #[.slice A1 n1 c1, .slice A2 n2 c2] 46)).alloc (.cells #[.pointer P] 69)) 3 [.int .i64 t]
    simpa using this)
  unfold stl16
  clear hk hs hq hz
  cases hr : rgb16 K S with
  | false =>
    rw [hr] at HCH
    simp only [Bool.false_eq_true, if_false] at HCH
    obtain ⟨x0, x1⟩ := cells2b16 B0.out
    clear hr
    go_enter Try.func30, Try.ntmps30
    go_wp2_with (go_at_call 23; refine (HCH.out _ T3.out).mono ?_; rintro e w4 ⟨rfl, t4⟩; have T4 := Lib.hid (T3.out.trans t4); clear t4)
    go_ret
    exact ⟨rfl, T4.out⟩
  | true =>
    rw [hr] at HCH
    simp only [if_true, Bool.true_and] at HCH ⊢
    clear hr
    obtain ⟨x0, x1⟩ := cells2b16 B0.out
    obtain ⟨b1, hb1⟩ : ∃ b, K.any (fun k => f k (nul16 k)) = b := ⟨_, rfl⟩
    obtain ⟨b2, hb2⟩ : ∃ b, S.any (fun s => f s.k s.v) = b := ⟨_, rfl⟩
    rw [hb1] at HKT
    rw [hb2] at HST
    rw [hb1, hb2]
    clear hb1 hb2
    cases b1 with
    | true =>
      go_enter Try.func30, Try.ntmps30
      go_wp2_with (first
        | (go_at_call 67; refine (HKT.out _ _ _ T4.out M1.out M2.out).mono ?_; rintro e w5 ⟨rfl, t5⟩; have T5 := Lib.hid (T4.out.trans t5); clear t5)
        | (go_at_call 23; refine (HCH.out _ T3.out).mono ?_; rintro e w4 ⟨rfl, t4⟩; have T4 := Lib.hid (T3.out.trans t4); obtain ⟨y0, y1⟩ := cells2b16 (B0.out.turn t4 (fun h => h)); have M1 := Lib.hid (B1.out.turn t4 (fun h => h)); have M2 := Lib.hid (B2.out.turn t4 (fun h => h)); clear t4 x0 x1))
      go_ret
      exact ⟨rfl, T5.out⟩
    | false =>
      go_enter Try.func30, Try.ntmps30
      go_wp2_with (first
        | (go_at_call 75; refine (HST.out _ _ _ T5.out N1.out N2.out).mono ?_; rintro e w6 ⟨rfl, t6⟩; have T6 := Lib.hid (T5.out.trans t6); clear t6)
        | (go_at_call 67; refine (HKT.out _ _ _ T4.out M1.out M2.out).mono ?_; rintro e w5 ⟨rfl, t5⟩; have T5 := Lib.hid (T4.out.trans t5); obtain ⟨z0, z1⟩ := cells2b16 (M0.out.turn t5 (fun h => h)); have N1 := Lib.hid (M1.out.turn t5 (fun h => h)); have N2 := Lib.hid (M2.out.turn t5 (fun h => h)); clear t5 y0 y1)
        | (go_at_call 23; refine (HCH.out _ T3.out).mono ?_; rintro e w4 ⟨rfl, t4⟩; have T4 := Lib.hid (T3.out.trans t4); obtain ⟨y0, y1⟩ := cells2b16 (B0.out.turn t4 (fun h => h)); have M0 := Lib.hid (B0.out.turn t4 (fun h => h)); have M1 := Lib.hid (B1.out.turn t4 (fun h => h)); have M2 := Lib.hid (B2.out.turn t4 (fun h => h)); clear t4 x0 x1))
      go_ret
      exact ⟨rfl, T6.out⟩
end Go.Proofs.Ytjkfgbmlhglnfaa
