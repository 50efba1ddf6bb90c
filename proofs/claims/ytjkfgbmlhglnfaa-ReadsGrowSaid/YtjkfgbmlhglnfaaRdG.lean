/- Layer 16: what covers a key. -/
import Derived.Test.YtjkfgbmlhglnfaaRdD
import Derived.Laws.EntriesVeiled
import Derived.Test.YtjkfgbmlhglnfaaShelf
namespace Go.Proofs.Ytjkfgbmlhglnfaa
open Go.RowKit Go.Shelf
set_option linter.unusedVariables false
set_option linter.unusedSimpArgs false
set_option maxRecDepth 100000
attribute [local go_sem] Oper.semAt_some

def cov16 (K : List ByteArray) (S : List Pq2) (key : ByteArray) : Bool := hasK K key || spd16 S key
/-- What asks whether reads cover a key. -/
def Clo16 (w : World) (f : Value) (K : List ByteArray) (S : List Pq2) : Prop :=
  (f = .func (.func 112) #[] #[] ∧ rgb16 K S = false) ∨
  ∃ (rb sb lb : Nat) (A1 : Option Addr) (n1 c1 : Nat) (A2 : Option Addr) (n2 c2 : Nat), f = .func (.func 113) #[] #[.pointer (some ⟨rb, 0, none⟩), .pointer (some ⟨sb, 0, none⟩)] ∧
    Blk w rb 46 [.slice A1 n1 c1, .slice A2 n2 c2] ∧ Blk w sb 111 [.func (.func 109) #[] #[.pointer (some ⟨lb, 0, none⟩)]] ∧ Blk w lb 44 [.slice A2 n2 c2] ∧ Kx w (.slice A1 n1 c1) K ∧ Px w (.slice A2 n2 c2) S ∧ Rgt16 K S
theorem Clo16.still {w w' : World} {f : Value} {K : List ByteArray} {S : List Pq2} (h : Clo16 w f K S) (ht : Turn (fun _ => False) w w') : Clo16 w' f K S := by
  rcases h with h | ⟨rb, sb, lb, A1, n1, c1, A2, n2, c2, e, h1, h2, h3, h4, h5, h6⟩
  · exact .inl h
  · exact .inr ⟨rb, sb, lb, A1, n1, c1, A2, n2, c2, e, h1.turn ht (fun h => h), h2.turn ht (fun h => h), h3.turn ht (fun h => h), h4.still ht, h5.still ht, h6⟩
theorem covering1_16 (key : ByteArray) (w : World) :
    Calls Try.prog 112 #[.string key] w fun e w' => e = .returned (.bool false) ∧ w = w' := by
  go_enter Try.func112, Try.ntmps112
  go_wp2_with fail
  go_ret
  exact ⟨rfl, rfl⟩
set_option maxHeartbeats 4000000 in
theorem covering2_16 (K : List ByteArray) (S : List Pq2) (key : ByteArray) (rb sb lb : Nat) (A1 : Option Addr) (n1 c1 : Nat) (A2 : Option Addr) (n2 c2 : Nat) (w : World)
    (h1 : Blk w rb 46 [.slice A1 n1 c1, .slice A2 n2 c2]) (h2 : Blk w sb 111 [.func (.func 109) #[] #[.pointer (some ⟨lb, 0, none⟩)]]) (h3 : Blk w lb 44 [.slice A2 n2 c2]) (h4 : Kx w (.slice A1 n1 c1) K) (h5 : Px w (.slice A2 n2 c2) S) (h6 : Rgt16 K S) :
    Calls Try.prog 113 #[.string key, .pointer (some ⟨rb, 0, none⟩), .pointer (some ⟨sb, 0, none⟩)] w fun e w' => e = .returned (.bool (cov16 K S key)) ∧ Turn (fun _ => False) w w' := by
  obtain ⟨x0, x1⟩ := cells2b16 h1
  have HB := Lib.hid (bsearch16 K _ key w h4 h6.2.2.1 (by have := h6.1.1; omega))
  have HW := Lib.hid (fun W (hW : Turn (fun _ => False) w W) => within1_16 S _ key lb W (h5.still hW) (h3.turn hW (fun h => h)))
  have HSB := Lib.hid h2
  unfold cov16
  clear h1 h2 h3 h4 h5 h6
  cases hh : hasK K key with
  | true =>
    rw [hh] at HB
    go_enter Try.func113, Try.ntmps113
    go_wp2_with (go_at_call 54; refine HB.out.mono ?_; rintro e w2 ⟨rfl, ht2⟩; have T2 := Lib.hid ht2; clear ht2)
    go_ret
    exact ⟨rfl, T2.out⟩
  | false =>
    rw [hh] at HB
    simp only [Bool.false_or]
    go_enter Try.func113, Try.ntmps113
    go_wp2_with (first
      | (go_at_call 54; refine HB.out.mono ?_; rintro e w2 ⟨rfl, ht2⟩; have T2 := Lib.hid ht2; have s0 := (HSB.out.turn ht2 (fun h => h)).cell 0; clear ht2)
      | (go_at_call 109; refine (HW.out _ T2.out).mono ?_; rintro e w3 ⟨rfl, ht3⟩; have T3 := Lib.hid (T2.out.trans ht3); clear ht3))
    go_ret
    exact ⟨rfl, T3.out⟩
set_option maxHeartbeats 4000000 in
theorem covering_16 (K : List ByteArray) (S : List Pq2) (A1 : Option Addr) (n1 c1 : Nat) (A2 : Option Addr) (n2 c2 : Nat) (w : World) (hk : Kx w (.slice A1 n1 c1) K) (hs : Px w (.slice A2 n2 c2) S) :
    Calls Try.prog 68 #[.agg #[.slice A1 n1 c1, .slice A2 n2 c2]] w fun e w' => ∃ f, e = .returned f ∧ Clo16 w' f K S ∧ Turn (fun _ => False) w w' := by
  have HC := Lib.hid (fun W (hW : Turn (fun _ => False) w W) => check_16 K S A1 n1 c1 A2 n2 c2 W (hk.still hW) (hs.still hW))
  obtain ⟨W1, hW1⟩ : ∃ W, w.alloc (.cells #[.slice A1 n1 c1, .slice A2 n2 c2] 46) = W := ⟨_, rfl⟩
  have T1 : Hid (Turn (fun _ => False) w W1) := Lib.hid (hW1 ▸ (Turn.refl _ _).alloc _)
  have B1 : Hid (Blk W1 w.heap.size 46 [.slice A1 n1 c1, .slice A2 n2 c2]) := Lib.hid (hW1 ▸ Blk.new _ _ _)
  obtain ⟨x0, x1⟩ := cells2b16 B1.out
  have HK := Lib.hid hk
  have HS := Lib.hid hs
  clear hk hs
  cases hr : rgb16 K S with
  | false =>
    rw [hr] at HC
    simp only [Bool.false_eq_true, if_false] at HC
    have HR := Lib.hid hr
    clear hr
    go_enter Try.func68, Try.ntmps68
    go_wp2_with (go_at_call 23; refine (HC.out _ T1.out).mono ?_; rintro e w2 ⟨rfl, ht2⟩; have T2 := Lib.hid (T1.out.trans ht2); clear ht2)
    go_ret
    exact ⟨_, rfl, .inl ⟨rfl, HR.out⟩, T2.out⟩
  | true =>
    rw [hr] at HC
    simp only [if_true] at HC
    have HR := Lib.hid (rgb_iff.1 hr)
    clear hr
    go_enter Try.func68, Try.ntmps68
    go_wp2_with (first
      | (go_at_call 23; refine (HC.out _ T1.out).mono ?_; rintro e w2 ⟨rfl, ht2⟩; have T2 := Lib.hid (T1.out.trans ht2); have B2 := Lib.hid (B1.out.turn ht2 (fun h => h)); obtain ⟨y0, y1⟩ := cells2b16 B2.out; clear ht2)
      | (go_at_call 63; refine (within_16 A2 n2 c2 _).mono ?_; rintro e w3 ⟨rfl, hw3⟩; have T3 : Hid (Turn (fun _ => False) w2 w3) := Lib.hid (hw3 ▸ (Turn.refl _ _).alloc _); have L3 : Hid (Blk w3 w2.heap.size 44 [.slice A2 n2 c2]) := Lib.hid (hw3 ▸ Blk.new _ _ _); clear hw3))
    go_ret
    have ht := (Turn.refl (fun _ => False) w3).alloc (.cells #[.func (.func 109) #[] #[.pointer (some ⟨w2.heap.size, 0, none⟩)]] 111)
    have htt := T2.out.trans (T3.out.trans ht)
    exact ⟨_, rfl, .inr ⟨w.heap.size, w3.heap.size, w2.heap.size, A1, n1, c1, A2, n2, c2, rfl, (B2.out.turn T3.out (fun h => h)).turn ht (fun h => h), Blk.new _ _ _, L3.out.turn ht (fun h => h), HK.out.still htt, HS.out.still htt, HR.out⟩, htt⟩
/-- A call of what covers. -/
theorem Clo16.call {w : World} {K : List ByteArray} {S : List Pq2} {f : Value} (h : Clo16 w f K S) : ∃ (g : Nat) (cs : Array Value), f = .func (.func g) #[] cs ∧ (g = 112 ∨ g = 113) ∧ ∀ (key : ByteArray) (W : World), Turn (fun _ => False) w W → Calls Try.prog g (#[.string key] ++ cs) W fun e w' => e = .returned (.bool (rgb16 K S && cov16 K S key)) ∧ Turn (fun _ => False) W w' := by
  rcases h with ⟨rfl, h⟩ | ⟨rb, sb, lb, A1, n1, c1, A2, n2, c2, rfl, h1, h2, h3, h4, h5, h6⟩
  · refine ⟨_, _, rfl, .inl rfl, fun key W hW => ?_⟩
    rw [h, Bool.false_and]
    exact (covering1_16 key W).mono fun e w' ⟨he, hw⟩ => ⟨he, hw ▸ Turn.refl _ _⟩
  · refine ⟨_, _, rfl, .inr rfl, fun key W hW => ?_⟩
    rw [rgb_yes h6, Bool.true_and]
    exact covering2_16 K S key rb sb lb A1 n1 c1 A2 n2 c2 W (h1.turn hW (fun h => h)) (h2.turn hW (fun h => h)) (h3.turn hW (fun h => h)) (h4.still hW) (h5.still hW) h6
set_option maxHeartbeats 4000000 in
theorem covers_16 (K : List ByteArray) (S : List Pq2) (key : ByteArray) (A1 : Option Addr) (n1 c1 : Nat) (A2 : Option Addr) (n2 c2 : Nat) (w : World) (hk : Kx w (.slice A1 n1 c1) K) (hs : Px w (.slice A2 n2 c2) S) :
    Calls Try.prog 26 #[.agg #[.slice A1 n1 c1, .slice A2 n2 c2], .string key] w fun e w' => e = .returned (.bool (rgb16 K S && cov16 K S key)) ∧ Turn (fun _ => False) w w' := by
  have HC := Lib.hid (fun W (hW : Turn (fun _ => False) w W) => covering_16 K S A1 n1 c1 A2 n2 c2 W (hk.still hW) (hs.still hW))
  clear hk hs
  go_enter Try.func26, Try.ntmps26
  go_wp2_with fail
  refine (HC.out _ ((Turn.refl _ _).alloc _)).mono ?_
  rintro e w2 ⟨f, rfl, hcl, ht2⟩
  have T2 := Lib.hid (((Turn.refl (fun _ => False) w).alloc (.cells #[.slice A1 n1 c1, .slice A2 n2 c2] 46)).trans ht2)
  have HCL := Lib.hid hcl.call
  clear hcl ht2
  obtain ⟨g, cs, rfl, hg, hcall⟩ := HCL.out
  have HCA := Lib.hid (hcall key w2 (Turn.refl _ _))
  clear hcall HCL
  rcases hg with rfl | rfl
  · go_wp2_with (go_at_call 112; refine HCA.out.mono ?_; rintro e w3 ⟨rfl, ht3⟩; have T3 := Lib.hid (T2.out.trans ht3); clear ht3)
    go_ret
    exact ⟨rfl, T3.out⟩
  · go_wp2_with (go_at_call 113; refine HCA.out.mono ?_; rintro e w3 ⟨rfl, ht3⟩; have T3 := Lib.hid (T2.out.trans ht3); clear ht3)
    go_ret
    exact ⟨rfl, T3.out⟩
end Go.Proofs.Ytjkfgbmlhglnfaa
/- Layer 16: copies of reads. -/
namespace Go.Proofs.Ytjkfgbmlhglnfaa
open Go.RowKit Go.Shelf
set_option linter.unusedVariables false
set_option linter.unusedSimpArgs false
set_option maxRecDepth 100000
attribute [local go_sem] Oper.semAt_some

theorem info_sp16 : (Try.prog.info? 59).map (fun i => (i.zero, i.size, i.bytes)) = some (some (.agg #[.string ByteArray.empty, .string ByteArray.empty]), 2, 32) := by kernel_rfl
/-- Spans that lie behind a mark. -/
def Fw16 (B : Nat) (S : List Pq2) (A : Option Addr) : Prop := 0 < S.length → ∀ a, A = some a → B ≤ a.block
theorem px_of16 {w : World} {A : Option Addr} {c : Nat} {S : List Pq2} (h : Rc w A (S.flatMap pc2)) (hl : S.length ≤ 9223372036854775807) : Px w (.slice A S.length c) S := ⟨A, c, rfl, hl, h⟩
theorem cloneS_16 (S : List Pq2) (A : Option Addr) (n c : Nat) (w : World) (h : Px w (.slice A n c) S) (hb : n ≤ 1000000) :
    Calls Try.prog 102 #[.slice A n c] w fun e w' => ∃ A' c', e = .returned (.slice A' n c') ∧ Px w' (.slice A' n c') S ∧ (Fw16 w.heap.size S A' ∧ n ≤ c') ∧ Turn (fun _ => False) w w' := by
  have HN : Hid (S.length = n) := Lib.hid (by obtain ⟨_, _, e, _⟩ := id h; injection e with _ e _; exact e.symm)
  have HRC : Hid (Rc w A (S.flatMap pc2)) := Lib.hid (by obtain ⟨_, _, e, _, h2⟩ := id h; injection e with e1 _ _; rw [e1]; exact h2)
  have q22 : ∀ (w : World) (a : Option Addr) (n c n' c' : Nat), (binOp .eql 44 (.slice a n c) (.slice none n' c')).run Try.prog w = .ok (.bool a.isNone) w := fun w a n c n' c' => Lib.run_eql_slice_nil w _ _ a n c n' c' Try.underlying44
  cases A with
  | none =>
    have h0 : n = 0 := by
      rcases Nat.eq_zero_or_pos n with h0 | h0
      · exact h0
      · obtain ⟨b, o, e, _⟩ := HRC.out (by rw [flat_len pc2_len, HN.out]; omega)
        cases e
    subst h0
    have hL : S = [] := List.eq_nil_of_length_eq_zero HN.out
    subst hL
    clear h
    go_enter Try.func102, Try.ntmps102
    go_wp2_with fail
    go_ret
    exact ⟨_, _, rfl, ⟨none, 0, rfl, by simp, fun h => by simp at h⟩, ⟨fun h => by simp at h, Nat.le_refl _⟩, Turn.refl _ _⟩
  | some ad =>
    have HRC2 : Hid (Rc (w.alloc (.cells #[] 59)) (some ad) (S.flatMap pc2)) := Lib.hid (HRC.out.still ((Turn.refl _ _).alloc _))
    clear h
    go_enter Try.func102, Try.ntmps102
    go_wp2_with (at_builtin; refine wpList_app_bare rfl _ _ 44 rfl 59 _ 2 32 Try.underlying44 info_sp16 rfl (by decide) _ rfl (some ad) n c (S.flatMap pc2) rfl (by rw [flat_len pc2_len, HN.out]) HRC2.out (pc2_one _) (by unfold maxLen; omega) (by omega) ?_; intro A9 c9 w9 hr9 hc9 ht9; have R9 := Lib.hid hr9; have C9 := Lib.hid hc9; have T9 := Lib.hid ht9; clear hr9 hc9 ht9)
    go_ret
    refine ⟨_, _, rfl, ?_, ⟨fun h a e => Nat.le_trans (by simp) (C9.out.2 (by rw [← HN.out]; exact h) a e), C9.out.1⟩, ((Turn.refl _ _).alloc _).trans T9.out⟩
    have h9 := px_of16 (c := c9) R9.out (by rw [HN.out]; omega)
    rw [HN.out] at h9
    exact h9
theorem cloneK_16 (K : List ByteArray) (A : Option Addr) (n c : Nat) (w : World) (h : Kx w (.slice A n c) K) (hb : n ≤ 1000000) :
    Calls Try.prog 62 #[.slice A n c] w fun e w' => ∃ v', e = .returned v' ∧ w'.ownsRow w.heap.size 9 1 v' n (K.map Value.string) ∧ Turn (fun _ => False) w w' := by
  have hn : K.length = n := by obtain ⟨_, _, e, _⟩ := id h; injection e with _ e _; exact e.symm
  obtain ⟨A', c', e, _, hr⟩ := h
  injection e with e1 _ e3
  subst e1 e3
  cases A with
  | none =>
    have h0 : n = 0 := by
      rcases Nat.eq_zero_or_pos n with h0 | h0
      · exact h0
      · obtain ⟨b, o, e, _⟩ := hr (by rw [List.length_map, hn]; omega)
        cases e
    subst h0
    obtain rfl : K = [] := List.eq_nil_of_length_eq_zero hn
    refine (Try.slices_Clone_string_nil 0 c w).mono ?_
    rintro e w' ⟨rfl, rfl⟩
    exact ⟨_, rfl, World.ownsRow_nil _ _ _ _, Turn.refl _ _⟩
  | some ad =>
    rcases Nat.eq_zero_or_pos n with h0 | h0
    · subst h0
      obtain rfl : K = [] := List.eq_nil_of_length_eq_zero hn
      refine (Try.slices_Clone_string_zero ad c w).mono ?_
      rintro e w' ⟨v', rfl, ho, _, hbl⟩
      exact ⟨_, rfl, ho, Turn.of_below hbl (fun k h1 h2 => by omega)⟩
    · obtain ⟨b, o, e, _, hc⟩ := hr (by rw [List.length_map, hn]; omega)
      injection e with e
      subst e
      refine (Try.slices_Clone_string b o n c K w (by omega) (by omega) (fun j hj => ?_)).mono ?_
      · exact hc j _ (by rw [List.getElem?_map, List.getElem?_eq_getElem hj, List.getD_eq_getElem?_getD, List.getElem?_eq_getElem hj]; rfl)
      · rintro e w' ⟨v', rfl, ho, _, hbl⟩
        rw [List.take_of_length_le (by omega)] at ho
        exact ⟨_, rfl, ho, Turn.of_below hbl (fun k h1 h2 => by omega)⟩
/-- Spans stay, wherever else is written. -/
theorem Px.off16 {w X : World} {A : Option Addr} {n c g : Nat} {S : List Pq2} (h : Px w (.slice A n c) S) (hne : 0 < S.length → ∀ a, A = some a → a.block ≠ g) (ht : Turn (fun k => k = g) w X) : Px X (.slice A n c) S := by
  obtain ⟨A', c', e, hl, hr⟩ := h
  injection e with e1 e2 e3
  subst e1 e2 e3
  refine ⟨A, c, rfl, hl, fun hp => ?_⟩
  obtain ⟨b, o, rfl, hb, hc⟩ := hr hp
  have hS : 0 < S.length := by
    rcases Nat.eq_zero_or_pos S.length with h0 | h0
    · rw [List.eq_nil_of_length_eq_zero h0] at hp; simp at hp
    · exact h0
  refine ⟨b, o, rfl, Nat.lt_of_lt_of_le hb ht.size, fun j u hj => ?_⟩
  rw [World.cell?_of_block (w := w) (a := ⟨b, o + j, none⟩) (ht.block b hb (hne hS _ rfl))]
  exact hc j u hj
theorem put2_16 {W : World} {q t : Nat} {u0 u1 : Value} (h : Blk W q t [u0, u1]) (x0 x1 : Value) : Blk ((W.setCell ⟨q, 0, none⟩ x0).setCell ⟨q, 1, none⟩ x1) q t [x0, x1] ∧ Turn (fun k => k = q) W ((W.setCell ⟨q, 0, none⟩ x0).setCell ⟨q, 1, none⟩ x1) := by
  refine ⟨(h.put 0 x0).put 1 x1, ?_⟩
  exact ((Turn.refl (fun k => k = q) W).setCell (p := ⟨q, 0, none⟩) (.inl rfl) x0).setCell (p := ⟨q, 1, none⟩) (.inl rfl) x1
theorem own_tn16 {w w' : World} {base e size n : Nat} {v : Value} {xs : List Value} {S : Nat → Prop} (h : w.ownsRow base e size v n xs) (ht : Turn S w w') (hne : ∀ k, v.ownBlock = some k → ¬ S k) : w'.ownsRow base e size v n xs := by
  obtain ⟨hl, ⟨e, h0⟩ | ⟨b, cap, cur, e, hB, hh, hrest⟩⟩ := h
  · exact ⟨hl, .inl ⟨e, h0⟩⟩
  · exact ⟨hl, .inr ⟨b, cap, cur, e, hB, (ht.block b (Array.getElem?_eq_some_iff.1 hh).1 (hne b (by rw [e]; rfl))).trans hh, hrest⟩⟩
theorem own_cap16 {w : World} {B t s n c : Nat} {A : Option Addr} {xs : List Value} (h : w.ownsRow B t s (.slice A n c) n xs) : n ≤ c := by
  rcases h.2 with ⟨e, h0⟩ | ⟨g, cap, cur, e, _, _, hn8, _⟩
  · injection e with _ e2 e3; omega
  · injection e with _ e2 e3; subst e3; have h4 := hn8; omega
/-- Reads in memory of their own. -/
def Own16 (w w' : World) (vk : Value) (n1 : Nat) (A2 : Option Addr) (n2 c2 : Nat) (K : List ByteArray) (S : List Pq2) : Prop :=
  w'.ownsRow w.heap.size 9 1 vk n1 (K.map Value.string) ∧ Px w' (.slice A2 n2 c2) S ∧ (0 < S.length → ∀ a, A2 = some a → w.heap.size ≤ a.block ∧ a.block < w'.heap.size ∧ ∀ k, vk.ownBlock = some k → a.block ≠ k) ∧ n2 ≤ c2
set_option maxHeartbeats 4000000 in
theorem alike_16 (L : List ByteArray) (S : List Pq2) (A1 : Option Addr) (n1 c1 : Nat) (A2 : Option Addr) (n2 c2 : Nat) (w : World) (hk : Kx w (.slice A1 n1 c1) L) (hs : Px w (.slice A2 n2 c2) S) (hb1 : n1 ≤ 64) (hb2 : n2 ≤ 64) :
    Calls Try.prog 53 #[.agg #[.slice A1 n1 c1, .slice A2 n2 c2]] w fun e w' => ∃ vk A3 c3, e = .returned (.agg #[vk, .slice A3 n2 c3]) ∧ Own16 w w' vk n1 A3 n2 c3 L S ∧ Turn (fun _ => False) w w' := by
  have HCK := Lib.hid (fun W (hW : Turn (fun _ => False) w W) => cloneK_16 L A1 n1 c1 W (hk.still hW) (by omega))
  have HCS := Lib.hid (fun W (hW : Turn (fun _ => False) w W) => cloneS_16 S A2 n2 c2 W (hs.still hW) (by omega))
  obtain ⟨W1, hW1⟩ : ∃ W, w.alloc (.cells #[.slice A1 n1 c1, .slice A2 n2 c2] 46) = W := ⟨_, rfl⟩
  obtain ⟨W2, hW2⟩ : ∃ W, W1.alloc (.cells #[.slice none 0 0, .slice none 0 0] 46) = W := ⟨_, rfl⟩
  have T2 : Hid (Turn (fun _ => False) w W2) := Lib.hid (hW2 ▸ (hW1 ▸ (Turn.refl (fun _ => False) w).alloc _ : Turn (fun _ => False) w W1).alloc _)
  have B1 : Hid (Blk W2 w.heap.size 46 [.slice A1 n1 c1, .slice A2 n2 c2]) := Lib.hid (hW2 ▸ (show Blk W1 w.heap.size 46 [.slice A1 n1 c1, .slice A2 n2 c2] from hW1 ▸ Blk.new _ _ _).alloc _)
  have B2 : Hid (Blk W2 W1.heap.size 46 [.slice none 0 0, .slice none 0 0]) := Lib.hid (hW2 ▸ Blk.new _ _ _)
  clear hk hs
  go_enter Try.func53, Try.ntmps53
  go_upto_region 1 with fail
  have hlt0 : w.heap.size < W1.heap.size := by rw [← hW1]; simp
  have hle0 : w.heap.size ≤ W1.heap.size := by omega
  have T0 : Hid (Turn (fun _ => False) W2 W2.drew) := Lib.hid (Turn.refl _ _).drew
  have TM0 : Hid (Turn (fun k => k = W1.heap.size) W2 W2.drew) := Lib.hid (Turn.refl _ _).drew
  refine wp_region_noPanic ?_
  refine wp_region_held_drew (S := (fun X => Turn (fun k => k = W1.heap.size) W2 X)) (by kernel_rfl) TM0.out (fun hHeld => ?_)
  clear hHeld
  refine wpAnyH_take (i := 0) (v := ?_) rfl (by kernel_rfl) (by kernel_rfl) (by kernel_rfl) (fun _ _ _ h => h) (Or.inl ⟨by rfl, ?_⟩) (by assumption) ?_
  rotate_left 1
  · intro w' hSw
    go_simp
    all_goals first | with_reducible rfl | (rw [if_neg (by omega)]; done) | (rw [if_pos (by omega)]; done)
  try simp only [List.getElem_toArray, List.getElem_cons_zero, List.getElem_cons_succ, Act.put, List.setIfInBounds_toArray, List.set_cons_zero, List.set_cons_succ]
  refine wpAnyH_take (i := 1) (v := ?_) rfl (by kernel_rfl) (by kernel_rfl) (by kernel_rfl) (fun _ _ _ h => h) (Or.inl ⟨by rfl, ?_⟩) (by assumption) ?_
  rotate_left 1
  · intro w' hSw
    obtain ⟨x0, x1⟩ := cells2b16 (B1.out.turn hSw (fun h => by omega))
    go_simp
    all_goals first | with_reducible rfl | (rw [if_neg (by omega)]; done) | (rw [if_pos (by omega)]; done)
  try simp only [List.getElem_toArray, List.getElem_cons_zero, List.getElem_cons_succ, Act.put, List.setIfInBounds_toArray, List.set_cons_zero, List.set_cons_succ]
  refine wpAnyH_take (i := 3) (v := ?_) rfl (by kernel_rfl) (by kernel_rfl) (by kernel_rfl) (fun _ _ _ h => h) (Or.inl ⟨by rfl, ?_⟩) (by assumption) ?_
  rotate_left 1
  · intro w' hSw
    go_simp
    all_goals first | with_reducible rfl | (rw [if_neg (by omega)]; done) | (rw [if_pos (by omega)]; done)
  try simp only [List.getElem_toArray, List.getElem_cons_zero, List.getElem_cons_succ, Act.put, List.setIfInBounds_toArray, List.set_cons_zero, List.set_cons_succ]
  refine wpAnyH_take (i := 4) (v := ?_) rfl (by kernel_rfl) (by kernel_rfl) (by kernel_rfl) (fun _ _ _ h => h) (Or.inl ⟨by rfl, ?_⟩) (by assumption) ?_
  rotate_left 1
  · intro w' hSw
    obtain ⟨x0, x1⟩ := cells2b16 (B1.out.turn hSw (fun h => by omega))
    go_simp
    all_goals first | with_reducible rfl | (rw [if_neg (by omega)]; done) | (rw [if_pos (by omega)]; done)
  try simp only [List.getElem_toArray, List.getElem_cons_zero, List.getElem_cons_succ, Act.put, List.setIfInBounds_toArray, List.set_cons_zero, List.set_cons_succ]
  refine wpAnyH_ready (rs := [2]) (by kernel_rfl) (by simp) ?_
  refine AllReadyH.cons rfl (fun K hK => ?_) AllReadyH.nil
  refine step_call_on 62 Try.f62 _ _ rfl Try.func62 (by kernel_rfl) (by kernel_rfl) _ _ ((HCK.out _ (T2.out.trans T0.out)).mono fun e W' ⟨v', he, ho, ht⟩ => (⟨v', he, ho, ht⟩ : ∃ v, e = .returned v ∧ W'.ownsRow _ 9 1 v n1 (L.map Value.string) ∧ Turn (fun _ => False) _ W')) (by go_simp) (by rfl) ?_
  rintro v9 w6 ⟨ho, ht⟩
  obtain ⟨AK, cK, rfl⟩ := own_slice_ ho
  have T6 := Lib.hid (T0.out.trans ht)
  have O6 := Lib.hid ho
  clear ho ht
  have TM6 : Hid (Turn (fun k => k = W1.heap.size) W2 w6) := Lib.hid (T6.out.mono (fun _ _ h => h.elim))
  refine hK.out _ _ TM6.out (fun hHeld => ?_)
  clear hHeld hK K
  try simp only [List.getElem_toArray, List.getElem_cons_zero, List.getElem_cons_succ, Act.put, List.setIfInBounds_toArray, List.set_cons_zero, List.set_cons_succ]
  refine wpAnyH_ready (rs := [5]) (by kernel_rfl) (by simp) ?_
  refine AllReadyH.cons rfl (fun K hK => ?_) AllReadyH.nil
  refine step_call_on 102 Try.f102 _ _ rfl Try.func102 (by kernel_rfl) (by kernel_rfl) _ _ ((HCS.out _ (T2.out.trans T6.out)).mono fun e W' ⟨A', c', he, ho, hf, ht⟩ => (⟨.slice A' n2 c', he, A', c', rfl, ho, hf, ht⟩ : ∃ v, e = .returned v ∧ ∃ A' c', v = .slice A' n2 c' ∧ Px W' (.slice A' n2 c') S ∧ (Fw16 _ S A' ∧ n2 ≤ c') ∧ Turn (fun _ => False) _ W')) (by go_simp) (by rfl) ?_
  rintro v9 w7 ⟨A3, c3, rfl, ho, hf, ht⟩
  have T7 := Lib.hid (T6.out.trans ht)
  have O7 := Lib.hid (own_still_ O6.out ht)
  have P7 := Lib.hid ho
  have F7 := Lib.hid hf
  have D7 := Lib.hid (fun k hk => (own_ge9 O6.out k hk).2)
  have B7 := Lib.hid (B2.out.turn T7.out (fun h => h))
  clear ho ht hf
  have TM7 : Hid (Turn (fun k => k = W1.heap.size) W2 w7) := Lib.hid (T7.out.mono (fun _ _ h => h.elim))
  refine hK.out _ _ TM7.out (fun hHeld => ?_)
  clear hHeld hK K
  try simp only [List.getElem_toArray, List.getElem_cons_zero, List.getElem_cons_succ, Act.put, List.setIfInBounds_toArray, List.set_cons_zero, List.set_cons_succ]
  refine wpAnyH_take (i := 6) (v := ?_) rfl (by kernel_rfl) (by kernel_rfl) (by kernel_rfl) (fun _ _ _ h => h) (Or.inl ⟨by rfl, ?_⟩) (by assumption) ?_
  rotate_left 1
  · intro w' hSw
    go_simp
    all_goals first | with_reducible rfl | (rw [if_neg (by omega)]; done) | (rw [if_pos (by omega)]; done)
  try simp only [List.getElem_toArray, List.getElem_cons_zero, List.getElem_cons_succ, Act.put, List.setIfInBounds_toArray, List.set_cons_zero, List.set_cons_succ]
  refine wpAnyH_ready (rs := [7]) (by kernel_rfl) (by simp) ?_
  refine AllReadyH.cons rfl (fun K hK => ?_) AllReadyH.nil
  obtain ⟨r0, r1⟩ := cells2b16 B7.out
  have f0 := B7.out.free 0
  have f1 := B7.out.free 1
  go_simp
  have TM8 := Lib.hid ((TM7.out.setCell (p := ⟨W1.heap.size, 0, none⟩) (.inl rfl) (.slice AK n1 cK)).setCell (p := ⟨W1.heap.size, 1, none⟩) (.inl rfl) (.slice A3 n2 c3))
  refine hK.out _ _ TM8.out (fun hHeld => ?_)
  clear hHeld hK K
  try simp only [List.getElem_toArray, List.getElem_cons_zero, List.getElem_cons_succ, Act.put, List.setIfInBounds_toArray, List.set_cons_zero, List.set_cons_succ]
  refine wpAnyH_done (by kernel_rfl) ?_ _
  refine NoPanic.normal ?_
  obtain ⟨hb9, hs9⟩ := put2_16 B7.out (.slice AK n1 cK) (.slice A3 n2 c3)
  obtain ⟨e0, e1⟩ := cells2b16 hb9
  go_wp2_with fail
  have hn4 : ∀ k, (Value.slice AK n1 cK).ownBlock = some k → k ≠ W1.heap.size := fun k hk e => by
    have h1 := (own_ge9 O6.out k hk).1
    have h2 := B2.out.lt
    simp only [World.size_drew] at h1
    omega
  refine bodyPost_ret (v := .agg #[.slice AK n1 cK, .slice A3 n2 c3]) (by simp [results, Try.results53, go_sem, e0, e1]) rfl ⟨_, A3, c3, rfl, ⟨?_, ?_, ?_, F7.out.2⟩, ?_⟩
  · exact own_mono9 (own_tn16 O7.out hs9 hn4) (by have := T2.out.size; simp; omega)
  · refine P7.out.off16 (fun hp a e => ?_) hs9
    have h1 := F7.out.1 hp a e
    have h2 := B2.out.lt
    have h3 := T6.out.size
    omega
  · intro hp a e
    have h1 := F7.out.1 hp a e
    refine ⟨by have := T2.out.size; have := T6.out.size; omega, ?_, fun k hk e2 => ?_⟩
    · obtain ⟨A', c', e3, _, hr⟩ := P7.out
      injection e3 with e3 _ _
      obtain ⟨b, o, e4, hb, _⟩ := hr (by rw [flat_len pc2_len]; omega)
      rw [e3, e4] at e
      injection e with e
      subst e
      exact Nat.lt_of_lt_of_le hb hs9.size
    · have h2 := D7.out k hk
      omega
  · exact (T2.out.trans T7.out).trans_new hs9 (fun k hk e => by omega)
end Go.Proofs.Ytjkfgbmlhglnfaa
/- Layer 16: Key. -/
namespace Go.Proofs.Ytjkfgbmlhglnfaa
open Go.RowKit Go.Shelf
set_option linter.unusedVariables false
set_option linter.unusedSimpArgs false
set_option maxRecDepth 100000
attribute [local go_sem] Oper.semAt_some

theorem Px.tn16 {w X : World} {A : Option Addr} {n c : Nat} {S : List Pq2} {T : Nat → Prop} (h : Px w (.slice A n c) S) (ht : Turn T w X) (hne : 0 < S.length → ∀ a, A = some a → ¬ T a.block) : Px X (.slice A n c) S := by
  obtain ⟨A', c', e, hl, hr⟩ := h
  injection e with e1 e2 e3
  subst e1 e2 e3
  refine ⟨A, c, rfl, hl, fun hp => ?_⟩
  obtain ⟨b, o, rfl, hb, hc⟩ := hr hp
  have hS : 0 < S.length := by
    rcases Nat.eq_zero_or_pos S.length with h0 | h0
    · rw [List.eq_nil_of_length_eq_zero h0] at hp; simp at hp
    · exact h0
  refine ⟨b, o, rfl, Nat.lt_of_lt_of_le hb ht.size, fun j u hj => ?_⟩
  rw [World.cell?_of_block (w := w) (a := ⟨b, o + j, none⟩) (ht.block b hb (hne hS _ rfl))]
  exact hc j u hj
theorem kr_of16 {w : World} {v : Value} {n : Nat} {K : List ByteArray} (hn : K.length = n) (h : w.ownsRow 0 9 1 v n (K.map Value.string)) : Kr w v K := by
  subst hn
  exact h
theorem free2_16 {W : World} {q t : Nat} {u0 u1 : Value} (h : Blk W q t [u0, u1]) : W.frozen? ⟨q, 0, none⟩ = false ∧ W.frozen? ⟨q, 1, none⟩ = false := ⟨h.free 0, h.free 1⟩
open Classical in
/-- What Key tells. -/
noncomputable def key16 (K : List ByteArray) (S : List Pq2) (key : ByteArray) : List ByteArray × List Pq2 × Int :=
  if rgb16 K S then (if cov16 K S key then (K, S, 0) else if K.length = 64 then ([], [], 9) else (insK K (plK K key) key, S, 0)) else ([], [], 4)
/-- Reads and an error, as they are told. -/
def RP16 (w : World) (r : List ByteArray × List Pq2 × Int) (e : Ending) (w' : World) : Prop :=
  ∃ (A1 : Option Addr) (n1 c1 : Nat) (A2 : Option Addr) (n2 c2 : Nat), e = .returned (.tuple #[.agg #[.slice A1 n1 c1, .slice A2 n2 c2], .int .i64 r.2.2]) ∧ Kx w' (.slice A1 n1 c1) r.1 ∧ Px w' (.slice A2 n2 c2) r.2.1 ∧ n2 ≤ c2 ∧ Turn (fun _ => False) w w'
theorem kx_nil16 (w : World) : Kx w (.slice none 0 0) [] := ⟨none, 0, rfl, by simp, fun h => by simp at h⟩
theorem px_nil16 (w : World) : Px w (.slice none 0 0) [] := ⟨none, 0, rfl, by simp, fun h => by simp at h⟩
set_option maxHeartbeats 8000000 in
theorem key_16 (L : List ByteArray) (S : List Pq2) (key : ByteArray) (A1 : Option Addr) (n1 c1 : Nat) (A2 : Option Addr) (n2 c2 : Nat) (w : World) (hk : Kx w (.slice A1 n1 c1) L) (hs : Px w (.slice A2 n2 c2) S) :
    Calls Try.prog 19 #[.agg #[.slice A1 n1 c1, .slice A2 n2 c2], .string key] w (RP16 w (key16 L S key)) := by
  have hn1 : L.length = n1 := by obtain ⟨_, _, e, _⟩ := id hk; injection e with _ e _; exact e.symm
  have hn2 : S.length = n2 := by obtain ⟨_, _, e, _⟩ := id hs; injection e with _ e _; exact e.symm
  have HCH := Lib.hid (fun W (hW : Turn (fun _ => False) w W) => check_16 L S A1 n1 c1 A2 n2 c2 W (hk.still hW) (hs.still hW))
  have HCO := Lib.hid (fun W (hW : Turn (fun _ => False) w W) => covers_16 L S key A1 n1 c1 A2 n2 c2 W (hk.still hW) (hs.still hW))
  have HAL := Lib.hid (fun (h1 : n1 ≤ 64) (h2 : n2 ≤ 64) W (hW : Turn (fun _ => False) w W) => alike_16 L S A1 n1 c1 A2 n2 c2 W (hk.still hW) (hs.still hW) h1 h2)
  obtain ⟨W1, hW1⟩ : ∃ W, w.alloc (.cells #[.slice A1 n1 c1, .slice A2 n2 c2] 46) = W := ⟨_, rfl⟩
  obtain ⟨W2, hW2⟩ : ∃ W, W1.alloc (.cells #[.slice none 0 0, .slice none 0 0] 46) = W := ⟨_, rfl⟩
  have T2 : Hid (Turn (fun _ => False) w W2) := Lib.hid (hW2 ▸ (hW1 ▸ (Turn.refl (fun _ => False) w).alloc _ : Turn (fun _ => False) w W1).alloc _)
  have B1 : Hid (Blk W2 w.heap.size 46 [.slice A1 n1 c1, .slice A2 n2 c2]) := Lib.hid (hW2 ▸ (show Blk W1 w.heap.size 46 [.slice A1 n1 c1, .slice A2 n2 c2] from hW1 ▸ Blk.new _ _ _).alloc _)
  have B2 : Hid (Blk W2 W1.heap.size 46 [.slice none 0 0, .slice none 0 0]) := Lib.hid (hW2 ▸ Blk.new _ _ _)
  have hlt0 : w.heap.size < W1.heap.size := by rw [← hW1]; simp
  obtain ⟨x0, x1⟩ := cells2b16 B1.out
  obtain ⟨r0, r1⟩ := cells2b16 B2.out
  obtain ⟨f0, f1⟩ := free2_16 B2.out
  have HN1 := Lib.hid hn1
  have HN2 := Lib.hid hn2
  clear hk hs hn1 hn2
  unfold key16
  cases hr : rgb16 L S with
  | false =>
    rw [hr] at HCH
    simp only [Bool.false_eq_true, if_false] at HCH ⊢
    clear hr
    go_enter Try.func19, Try.ntmps19
    go_wp2_with (go_at_call 23; refine (HCH.out _ T2.out).mono ?_; rintro e w3 ⟨rfl, ht⟩; have T3 := Lib.hid (T2.out.trans ht); have V3 := Lib.hid ht; obtain ⟨x0, x1⟩ := cells2b16 (B1.out.turn ht (fun h => h)); obtain ⟨r0, r1⟩ := cells2b16 (B2.out.turn ht (fun h => h)); obtain ⟨f0, f1⟩ := free2_16 (B2.out.turn ht (fun h => h)); clear ht)
    obtain ⟨hb9, hs9⟩ := put2_16 (B2.out.turn V3.out (fun h => h)) (.slice none 0 0) (.slice none 0 0)
    obtain ⟨e0, e1⟩ := cells2b16 hb9
    refine bodyPost_ret (v := .tuple #[.agg #[.slice none 0 0, .slice none 0 0], .int .i64 4]) (by simp [results, Try.results19, go_sem, e0, e1]) rfl ⟨none, 0, 0, none, 0, 0, rfl, kx_nil16 _, px_nil16 _, Nat.le_refl _, T3.out.trans_new hs9 (fun k hk e => by omega)⟩
  | true =>
    have HRG := Lib.hid (rgb_iff.1 hr)
    have HLE : Hid (n1 ≤ 64 ∧ n2 ≤ 64) := Lib.hid (by have := HRG.out.1; have := HN1.out; have := HN2.out; omega)
    rw [hr] at HCH HCO
    simp only [if_true, Bool.true_and] at HCH HCO ⊢
    clear hr
    cases hc : cov16 L S key with
    | true =>
      rw [hc] at HCO
      simp only [if_true]
      clear hc
      go_enter Try.func19, Try.ntmps19
      go_wp2_with (first
        | (go_at_call 53; refine (HAL.out HLE.out.1 HLE.out.2 _ T4.out).mono ?_; rintro e w5 ⟨vk, A3, c3, rfl, ho, ht⟩; have T5 := Lib.hid (T4.out.trans ht); have V5 := Lib.hid (V4.out.trans ht); obtain ⟨AK, cK, rfl⟩ := own_slice_ ho.1; have O5 := Lib.hid ho; have AL5 := Lib.hid ht; obtain ⟨x0, x1⟩ := cells2b16 (B1.out.turn (V4.out.trans ht) (fun h => h)); obtain ⟨r0, r1⟩ := cells2b16 (B2.out.turn (V4.out.trans ht) (fun h => h)); obtain ⟨f0, f1⟩ := free2_16 (B2.out.turn (V4.out.trans ht) (fun h => h)); clear ht ho)
        | (go_at_call 26; refine (HCO.out _ T3.out).mono ?_; rintro e w4 ⟨rfl, ht⟩; have T4 := Lib.hid (T3.out.trans ht); have V4 := Lib.hid (V3.out.trans ht); obtain ⟨x0, x1⟩ := cells2b16 (B1.out.turn (V3.out.trans ht) (fun h => h)); obtain ⟨r0, r1⟩ := cells2b16 (B2.out.turn (V3.out.trans ht) (fun h => h)); obtain ⟨f0, f1⟩ := free2_16 (B2.out.turn (V3.out.trans ht) (fun h => h)); clear ht)
        | (go_at_call 23; refine (HCH.out _ T2.out).mono ?_; rintro e w3 ⟨rfl, ht⟩; have T3 := Lib.hid (T2.out.trans ht); have V3 := Lib.hid ht; obtain ⟨x0, x1⟩ := cells2b16 (B1.out.turn ht (fun h => h)); obtain ⟨r0, r1⟩ := cells2b16 (B2.out.turn ht (fun h => h)); obtain ⟨f0, f1⟩ := free2_16 (B2.out.turn ht (fun h => h)); clear ht))
      obtain ⟨hb9, hs9⟩ := put2_16 (B2.out.turn V5.out (fun h => h)) (.slice AK n1 cK) (.slice A3 n2 c3)
      obtain ⟨e0, e1⟩ := cells2b16 hb9
      have hb2 := B2.out.lt
      have hv4 := V4.out.size
      refine bodyPost_ret (v := .tuple #[.agg #[.slice AK n1 cK, .slice A3 n2 c3], .int .i64 0]) (by simp [results, Try.results19, go_sem, e0, e1]) rfl ⟨AK, n1, cK, A3, n2, c3, rfl, ?_, ?_, O5.out.2.2.2, T5.out.trans_new hs9 (fun k hk e => by omega)⟩
      · have ho := own_tn16 O5.out.1 hs9 (fun k hk e => by have := (own_ge9 O5.out.1 k hk).1; omega)
        exact ⟨AK, cK, by rw [HN1.out], by rw [HN1.out]; have := HLE.out; omega, rc_own ho⟩
      · exact O5.out.2.1.off16 (fun hp a e => by have := (O5.out.2.2.1 hp a e).1; omega) hs9
    | false =>
      rw [hc] at HCO
      simp only [Bool.false_eq_true, if_false]
      clear hc
      by_cases h64 : L.length = 64
      · rw [if_pos h64]
        have hq : ((n1 : Int) == 64) = true := by rw [← HN1.out, h64]; rfl
        clear h64
        go_enter Try.func19, Try.ntmps19
        go_wp2_with (first
          | (go_at_call 26; refine (HCO.out _ T3.out).mono ?_; rintro e w4 ⟨rfl, ht⟩; have T4 := Lib.hid (T3.out.trans ht); have V4 := Lib.hid (V3.out.trans ht); obtain ⟨x0, x1⟩ := cells2b16 (B1.out.turn (V3.out.trans ht) (fun h => h)); obtain ⟨r0, r1⟩ := cells2b16 (B2.out.turn (V3.out.trans ht) (fun h => h)); obtain ⟨f0, f1⟩ := free2_16 (B2.out.turn (V3.out.trans ht) (fun h => h)); clear ht)
          | (go_at_call 23; refine (HCH.out _ T2.out).mono ?_; rintro e w3 ⟨rfl, ht⟩; have T3 := Lib.hid (T2.out.trans ht); have V3 := Lib.hid ht; obtain ⟨x0, x1⟩ := cells2b16 (B1.out.turn ht (fun h => h)); obtain ⟨r0, r1⟩ := cells2b16 (B2.out.turn ht (fun h => h)); obtain ⟨f0, f1⟩ := free2_16 (B2.out.turn ht (fun h => h)); clear ht))
        obtain ⟨hb9, hs9⟩ := put2_16 (B2.out.turn V4.out (fun h => h)) (.slice none 0 0) (.slice none 0 0)
        obtain ⟨e0, e1⟩ := cells2b16 hb9
        refine bodyPost_ret (v := .tuple #[.agg #[.slice none 0 0, .slice none 0 0], .int .i64 9]) (by simp [results, Try.results19, go_sem, e0, e1]) rfl ⟨none, 0, 0, none, 0, 0, rfl, kx_nil16 _, px_nil16 _, Nat.le_refl _, T4.out.trans_new hs9 (fun k hk e => by omega)⟩
      · rw [if_neg h64]
        have hq : ((n1 : Int) == 64) = false := by rw [← HN1.out]; simp; omega
        clear h64
        have HBS := Lib.hid (fun v W (h : Kx W v L) => bsearch16 L v key W h HRG.out.2.2.1 (by have := HRG.out.1; omega))
        have HIN := Lib.hid (fun v b W (h : Kr W v L) (hq : Blk W b 9 [.string key]) (hne : v.ownBlock ≠ some b) => insert14 L v (plK L key) b key W h (plK_le L key) (by have := HRG.out.1; omega) hq hne)
        have HPL := Lib.hid (plK_le L key)
        have HIL := Lib.hid (insK_len L (plK L key) key (plK_le L key))
        have hplk : plK L key ≤ 64 := by have := plK_le L key; have := HRG.out.1; omega
        obtain ⟨pk, hpk⟩ : ∃ k, plK L key = k := ⟨_, rfl⟩
        obtain ⟨hb, hhb⟩ : ∃ b, hasK L key = b := ⟨_, rfl⟩
        rw [hpk] at HBS HIN HIL hplk ⊢
        rw [hhb] at HBS
        rw [HN1.out] at HIL
        clear hpk hhb
        go_enter Try.func19, Try.ntmps19
        go_wp2_with (first
          | (go_at_call 55; refine (HIN.out (.slice AK n1 cK) w7.heap.size _ (HKR.out w7 U7.out) (Blk.new_ w7 9 [.string key] rfl) (HNE.out w7 U7.out)).mono ?_; rintro e w9 ⟨v9, rfl, hk9, ht9, hv9, hb9⟩; obtain ⟨A9, c9, rfl⟩ := own_slice_ hk9; rw [HIL.out] at hk9 hv9 ⊢; have K9 := Lib.hid hk9; have hlt : ∀ k, (Value.slice AK n1 cK).ownBlock = some k → w4.heap.size ≤ k ∧ k < w5.heap.size := fun k hk => own_ge9 O5.out.1 k hk; have HLT := Lib.hid hlt; have hsz5 := T5.out.size; have hsz4 := V4.out.size; have hB2 := B2.out.lt; have h57 : w5.heap.size < w7.heap.size := (by have := U7.out.size; simp at this; omega); have Q9 := Lib.hid ((Q7.out.alloc (.cells #[.string key] 9)).turn ht9 (fun e => by have := hlt _ e; omega)); have R9 := Lib.hid ((((B2.out.turn V5.out (fun h => h)).alloc (.cells #[.slice AK n1 cK, .slice A3 n2 c3] 46)).turn U7.out (fun h => h)).alloc (.cells #[.string key] 9) |>.turn ht9 (fun e => by have := hlt _ e; omega)); have hv5 := V5.out.size; have T9z := Lib.hid AL5.out; have hne5 : ∀ k, (Value.slice A9 (n1 + 1) c9).ownBlock = some k → w4.heap.size ≤ k ∧ k ≠ w5.heap.size := (fun k hk => hv9.elim (fun h => by rw [h] at hk; have := hlt k hk; omega) (fun h => by rw [h] at hk; injection hk with hk; simp at hk; have := T5.out.size; have := V4.out.size; have hz := O5.out.1; have := T9z.out.size; omega)); have T9 := Lib.hid ((((T5.out.alloc (.cells #[.slice AK n1 cK, .slice A3 n2 c3] 46)).trans U7.out).alloc (.cells #[.string key] 9)).trans_new ht9 (fun k hk e => by have := hlt k e; have := T4.out.size; omega)); have P9 : Hid (Px w9 (.slice A3 n2 c3) S) := Lib.hid ((((O5.out.2.1.still ((Turn.refl _ _).alloc (.cells #[.slice AK n1 cK, .slice A3 n2 c3] 46))).still U7.out).still ((Turn.refl _ _).alloc (.cells #[.string key] 9))).tn16 ht9 (fun hp a e h => (O5.out.2.2.1 hp a e).2.2 _ h rfl)); have HN5 := Lib.hid hne5; obtain ⟨q0, q1⟩ := cells2b16 Q9.out; obtain ⟨g0, g1⟩ := free2_16 Q9.out; have Q10 := Lib.hid (Q9.out.put 0 (.slice A9 (n1 + 1) c9)); obtain ⟨m0, m1⟩ := cells2b16 Q10.out; have S10 : Hid (Turn (fun k => k = w5.heap.size) w9 (w9.setCell ⟨w5.heap.size, 0, none⟩ (.slice A9 (n1 + 1) c9))) := Lib.hid ((Turn.refl (fun k => k = w5.heap.size) w9).setCell (p := ⟨w5.heap.size, 0, none⟩) (.inl rfl) _); have R10 := Lib.hid (R9.out.turn S10.out (fun e => by omega)); obtain ⟨r0, r1⟩ := cells2b16 R10.out; obtain ⟨f0, f1⟩ := free2_16 R10.out; clear hk9 ht9 hv9 hb9 hlt hne5)
          | (go_at_call 54; refine (HBS.out _ _ K6.out).mono ?_; rintro e w7 ⟨rfl, ht⟩; have U7 := Lib.hid ht; have Q7 := Lib.hid (Q6.out.turn ht (fun h => h)); obtain ⟨q0, q1⟩ := cells2b16 Q7.out; clear ht)
          | (go_at_call 53; refine (HAL.out HLE.out.1 HLE.out.2 _ T4.out).mono ?_; rintro e w5 ⟨vk, A3, c3, rfl, ho, ht⟩; have T5 := Lib.hid (T4.out.trans ht); have V5 := Lib.hid (V4.out.trans ht); obtain ⟨AK, cK, rfl⟩ := own_slice_ ho.1; have O5 := Lib.hid ho; have AL5 := Lib.hid ht; obtain ⟨x0, x1⟩ := cells2b16 (B1.out.turn (V4.out.trans ht) (fun h => h)); obtain ⟨r0, r1⟩ := cells2b16 (B2.out.turn (V4.out.trans ht) (fun h => h)); obtain ⟨f0, f1⟩ := free2_16 (B2.out.turn (V4.out.trans ht) (fun h => h)); have Q6 := Lib.hid (Blk.new w5 46 [.slice AK n1 cK, .slice A3 n2 c3]); obtain ⟨q0, q1⟩ := cells2b16 Q6.out; have K6 : Hid (Kx (w5.alloc (.cells #[.slice AK n1 cK, .slice A3 n2 c3] 46)) (.slice AK n1 cK) L) := Lib.hid ⟨AK, cK, by rw [HN1.out], by rw [HN1.out]; have := HLE.out; omega, (rc_own ho.1).still ((Turn.refl _ _).alloc _)⟩; have HKR : Hid (∀ w7, Turn (fun _ => False) (w5.alloc (.cells #[.slice AK n1 cK, .slice A3 n2 c3] 46)) w7 → Kr (w7.alloc (.cells #[.string key] 9)) (.slice AK n1 cK) L) := Lib.hid (fun w7 h => kr_of16 HN1.out (own_mono9 (own_still_ ho.1 ((((Turn.refl _ _).alloc _).trans h).alloc _)) (Nat.zero_le _))); have HNE : Hid (∀ w7, Turn (fun _ => False) (w5.alloc (.cells #[.slice AK n1 cK, .slice A3 n2 c3] 46)) w7 → (Value.slice AK n1 cK).ownBlock ≠ some w7.heap.size) := Lib.hid (fun w7 h e => by have h1 := (own_ge9 ho.1 _ e).2; have h2 := h.size; simp at h2; omega); clear ht ho)
          | (go_at_call 26; refine (HCO.out _ T3.out).mono ?_; rintro e w4 ⟨rfl, ht⟩; have T4 := Lib.hid (T3.out.trans ht); have V4 := Lib.hid (V3.out.trans ht); obtain ⟨x0, x1⟩ := cells2b16 (B1.out.turn (V3.out.trans ht) (fun h => h)); obtain ⟨r0, r1⟩ := cells2b16 (B2.out.turn (V3.out.trans ht) (fun h => h)); obtain ⟨f0, f1⟩ := free2_16 (B2.out.turn (V3.out.trans ht) (fun h => h)); clear ht)
          | (go_at_call 23; refine (HCH.out _ T2.out).mono ?_; rintro e w3 ⟨rfl, ht⟩; have T3 := Lib.hid (T2.out.trans ht); have V3 := Lib.hid ht; obtain ⟨x0, x1⟩ := cells2b16 (B1.out.turn ht (fun h => h)); obtain ⟨r0, r1⟩ := cells2b16 (B2.out.turn ht (fun h => h)); obtain ⟨f0, f1⟩ := free2_16 (B2.out.turn ht (fun h => h)); clear ht))
        obtain ⟨hb9, hs9⟩ := put2_16 R10.out (.slice A9 (n1 + 1) c9) (.slice A3 n2 c3)
        obtain ⟨e0, e1⟩ := cells2b16 hb9
        have hz5 := T5.out.size
        have hz9 := T9.out.size
        refine bodyPost_ret (v := .tuple #[.agg #[.slice A9 (n1 + 1) c9, .slice A3 n2 c3], .int .i64 0]) (by simp [results, Try.results19, go_sem, e0, e1]) rfl ⟨A9, n1 + 1, c9, A3, n2, c3, rfl, ?_, ?_, O5.out.2.2.2, ?_⟩
        · have h1 := (K9.out.turn S10.out (fun k hk => (HN5.out k hk).2)).turn hs9 (fun k hk e => by have h1 := (HN5.out k hk).1; have h2 := V4.out.size; have h3 := B2.out.lt; omega)
          have h2 := h1.kx (by rw [HIL.out]; have := HLE.out; omega)
          exact h2
        · exact (P9.out.off16 (fun hp a e => by have := (O5.out.2.2.1 hp a e).2.1; omega) S10.out).off16 (fun hp a e => by have := (O5.out.2.2.1 hp a e).1; omega) hs9
        · exact (T9.out.trans_new S10.out (fun k hk e => by omega)).trans_new hs9 (fun k hk e => by omega)
end Go.Proofs.Ytjkfgbmlhglnfaa
