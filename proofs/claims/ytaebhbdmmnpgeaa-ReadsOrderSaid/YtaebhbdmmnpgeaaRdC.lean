/- Layer 16: within; rows of texts asked by it. -/
import Derived.Test.YtaebhbdmmnpgeaaRdB
namespace Go.Proofs.Ytaebhbdmmnpgeaa
open Go.RowKit Go.Shelf
set_option linter.unusedVariables false
set_option linter.unusedSimpArgs false
set_option maxRecDepth 100000
attribute [local go_sem] Oper.semAt_some

theorem csS_16 (S : List Pq2) (u : Value) (key : ByteArray) (kb : Nat) (w : World) (h : Px w u S) (hk : Blk w kb 9 [.string key]) :
    Calls Try.prog 95 #[u, .func (.func 130) #[] #[.pointer (some ⟨kb, 0, none⟩)]] w fun e w' => e = .returned (.bool (spd16 S key)) ∧ Turn (fun _ => False) w w' := by
  have HI := Lib.hid (idxS_16 S u key kb w h hk)
  obtain ⟨A, c, rfl, hl, hr⟩ := h
  go_enter Try.func95, Try.ntmps95
  go_wp2_with (go_at_call 138; refine HI.out.mono ?_; rintro e w2 ⟨i, rfl, hib, ht2⟩; have T2 := Lib.hid ht2; have HIB := Lib.hid hib; clear ht2 hib)
  go_ret
  exact ⟨by rw [← HIB.out]; rfl, T2.out⟩
/-- What a slice's box holds. -/
theorem within1_16 (S : List Pq2) (u : Value) (key : ByteArray) (lb : Nat) (w : World) (h : Px w u S) (hb : Blk w lb 58 [u]) :
    Calls Try.prog 129 #[.string key, .pointer (some ⟨lb, 0, none⟩)] w fun e w' => e = .returned (.bool (spd16 S key)) ∧ Turn (fun _ => False) w w' := by
  have HC := Lib.hid (csS_16 S u key w.heap.size (w.alloc (.cells #[.string key] 9)) (h.still ((Turn.refl _ _).alloc _)) (Blk.new _ _ _))
  obtain ⟨A, c, rfl, hl, hr⟩ := h
  have hc := (hb.alloc (.cells #[.string key] 9)).cell 0
  have hlt := hb.lt
  go_enter Try.func129, Try.ntmps129
  go_wp2_with (go_at_call 95; refine HC.out.mono ?_; rintro e w2 ⟨rfl, ht2⟩; have T2 := Lib.hid ht2; clear ht2)
  go_ret
  exact ⟨rfl, ((Turn.refl _ _).alloc _).trans T2.out⟩
theorem within_16 (A : Option Addr) (n c : Nat) (w : World) :
    Calls Try.prog 83 #[.slice A n c] w fun e w' => e = .returned (.func (.func 129) #[] #[.pointer (some ⟨w.heap.size, 0, none⟩)]) ∧ w' = w.alloc (.cells #[.slice A n c] 58) := by
  go_enter Try.func83, Try.ntmps83
  go_wp2_with fail
  go_ret
  exact ⟨rfl, rfl⟩
/-- Texts that a slice holds. -/
def Kx (w : World) (v : Value) (K : List ByteArray) : Prop := ∃ A c, v = .slice A K.length c ∧ K.length ≤ 9223372036854775807 ∧ Rc w A (K.map Value.string)
theorem Kx.still {w w' : World} {v : Value} {K : List ByteArray} (h : Kx w v K) (ht : Turn (fun _ => False) w w') : Kx w' v K := by
  obtain ⟨A, c, e, hl, hr⟩ := h
  exact ⟨A, c, e, hl, hr.still ht⟩
theorem Kr.kx {w : World} {v : Value} {K : List ByteArray} (h : Kr w v K) (hl : K.length ≤ 9223372036854775807) : Kx w v K := by
  obtain ⟨A, c, rfl⟩ := own_slice_ h
  exact ⟨A, c, rfl, hl, rc_own h⟩
theorem kx_nil (w : World) : Kx w (.slice none 0 0) [] := ⟨none, 0, rfl, by simp, fun h => by simp at h⟩
/-- Where a row's first text stands that a test takes. -/
def Fst (p : ByteArray → Bool) (K : List ByteArray) (i : Int) : Prop := (i = -1 ∧ ∀ (j : Nat) (k : ByteArray), K[j]? = some k → p k = false) ∨ ∃ (j : Nat) (k : ByteArray), i = (j : Int) ∧ K[j]? = some k ∧ p k = true ∧ ∀ (l : Nat) (y : ByteArray), l < j → K[l]? = some y → p y = false
theorem Fst.any {p : ByteArray → Bool} {K : List ByteArray} {i : Int} (h : Fst p K i) : decide (0 ≤ i) = K.any p := by
  rcases h with ⟨rfl, h⟩ | ⟨j, k, rfl, h1, h2, _⟩
  · rw [show K.any p = false from any_none_ (fun j y _ hy => h j y hy)]; rfl
  · rw [show K.any p = true from List.any_eq_true.2 ⟨k, List.mem_of_getElem? h1, h2⟩]; simp
set_option maxHeartbeats 4000000 in
theorem idxK_16 (S : List Pq2) (su : Value) (lb : Nat) (K : List ByteArray) (u : Value) (w : World) (h : Kx w u K) (hs : Px w su S) (hb : Blk w lb 58 [su]) :
    Calls Try.prog 128 #[u, .func (.func 129) #[] #[.pointer (some ⟨lb, 0, none⟩)]] w fun e w' => ∃ i : Int, e = .returned (.int .i64 i) ∧ Fst (spd16 S) K i ∧ Turn (fun _ => False) w w' := by
  obtain ⟨A, c, rfl, hl, hr⟩ := h
  obtain ⟨n, hn⟩ : ∃ n, K.length = n := ⟨_, rfl⟩
  have HN := Lib.hid hn
  have HR := Lib.hid hr
  have HFF := Lib.hid (fun key W (hW : Turn (fun _ => False) w W) => within1_16 S su key lb W (hs.still hW) (hb.turn hW (fun h => h)))
  rw [hn] at hl ⊢
  clear hn hr hs hb
  go_enter Try.func128, Try.ntmps128
  go_wp2_with fail
  go_loopw [5, 8] (fun _ v8 wr => ∃ i : Nat, i ≤ n ∧ v8 = .int .i64 i ∧ Hid (∀ (j : Nat) (y : ByteArray), j < i → K[j]? = some y → spd16 S y = false) ∧ Turn (fun _ => False) w wr) (fun _ v8 _ => n - (intOf v8).toNat)
  case atStart => exact ⟨0, Nat.zero_le _, rfl, Lib.hid (fun j y hj => by omega), Turn.refl _ _⟩
  case round =>
    obtain ⟨i, hi, rfl, HNO, ht⟩ := hrel
    obtain ⟨wx, rfl⟩ : ∃ W, W = wr := ⟨_, rfl⟩
    have TT := Lib.hid ht
    by_cases hlt : i < n
    · have hl1 : (i : Int) < (n : Int) := by omega
      have hl0 : (0 : Int) ≤ (i : Int) := by omega
      have hq := wrap_of ((i : Int) + 1) (by omega) (by omega)
      obtain ⟨y, hy⟩ : ∃ y, K[i]? = some y := ⟨_, List.getElem?_eq_getElem (by rw [HN.out]; exact hlt)⟩
      have HY := Lib.hid hy
      obtain ⟨b, o, rfl, hb, hc⟩ := HR.out (by rw [List.length_map, HN.out]; omega)
      have hcx : ∀ k, wx.cell? ⟨b, k, none⟩ = w.cell? ⟨b, k, none⟩ := fun k => World.cell?_of_block (w := w) (a := ⟨b, k, none⟩) (ht.block b hb (fun h => h))
      have c0 := hc i (.string y) (by rw [List.getElem?_map, hy]; rfl)
      rw [← hcx] at c0
      clear hy hb hc hcx ht
      cases hbg : spd16 S y with
      | true =>
        have HF := Lib.hid (fun W hW => HFF.out y W hW)
        rw [hbg] at HF
        have HBG := Lib.hid hbg
        clear hbg
        go_wp2_with (go_at_call 129; refine (HF.out _ TT.out).mono ?_; rintro e w2 ⟨rfl, ht2⟩; have T2 := Lib.hid (TT.out.trans ht2); clear ht2)
        go_ret
        exact ⟨_, rfl, Or.inr ⟨i, y, rfl, HY.out, HBG.out, fun l z hl hz => HNO.out l z hl hz⟩, T2.out⟩
      | false =>
        have HF := Lib.hid (fun W hW => HFF.out y W hW)
        rw [hbg] at HF
        have HN2 : Hid (∀ (j : Nat) (y : ByteArray), j < i + 1 → K[j]? = some y → spd16 S y = false) := Lib.hid (fun j z hj hz => by
          by_cases h : j < i
          · exact HNO.out j z h hz
          · obtain rfl : j = i := by omega
            rw [HY.out] at hz
            cases hz
            exact hbg)
        clear hbg
        go_wp2_with (go_at_call 129; refine (HF.out _ TT.out).mono ?_; rintro e w2 ⟨rfl, ht2⟩; have T2 := Lib.hid (TT.out.trans ht2); clear ht2)
        go_roundw
        case rel => exact ⟨i + 1, by omega, by simp [hq], HN2, T2.out⟩
        case measure => simp [intOf, hq]; omega
    · obtain rfl : i = n := by omega
      go_wp2_with fail
      go_ret
      exact ⟨_, rfl, Or.inl ⟨rfl, fun j k hk => HNO.out j k (by rw [← HN.out]; exact (List.getElem?_eq_some_iff.1 hk).1) hk⟩, TT.out⟩
theorem csK_16 (S : List Pq2) (su : Value) (lb : Nat) (K : List ByteArray) (u : Value) (w : World) (h : Kx w u K) (hs : Px w su S) (hb : Blk w lb 58 [su]) :
    Calls Try.prog 87 #[u, .func (.func 129) #[] #[.pointer (some ⟨lb, 0, none⟩)]] w fun e w' => e = .returned (.bool (K.any (spd16 S))) ∧ Turn (fun _ => False) w w' := by
  have HI := Lib.hid (idxK_16 S su lb K u w h hs hb)
  obtain ⟨A, c, rfl, hl, hr⟩ := h
  go_enter Try.func87, Try.ntmps87
  go_wp2_with (go_at_call 128; refine HI.out.mono ?_; rintro e w2 ⟨i, rfl, hib, ht2⟩; have T2 := Lib.hid ht2; have HIB := Lib.hid hib; clear ht2 hib)
  go_ret
  exact ⟨by rw [← HIB.out.any]; rfl, T2.out⟩
theorem bsearch16 (K : List ByteArray) (v : Value) (key : ByteArray) (w : World) (h : Kx w v K) (hr : risK K) (hb : K.length ≤ 1000000) :
    Calls Try.prog 74 #[v, .string key] w fun e w' => e = .returned (.tuple #[.int .i64 (plK K key : Nat), .bool (hasK K key)]) ∧ Turn (fun _ => False) w w' := by
  obtain ⟨A, c, rfl, hl, hrc⟩ := h
  rcases Nat.eq_zero_or_pos K.length with h0 | h0
  · obtain rfl := List.eq_nil_of_length_eq_zero h0
    refine (Any2.slices_BinarySearch_string_empty lays26 A c key w).mono ?_
    rintro e w' ⟨rfl, rfl⟩
    exact ⟨rfl, Turn.refl _ _⟩
  · obtain ⟨g, o, rfl, _, hc⟩ := hrc (by simpa using h0)
    refine (Any2.slices_BinarySearch_string lays26 g o K.length c (fun t => K.getD t key) key w (by omega) (fun j hj => ?_)).mono ?_
    · exact hc j _ (by rw [List.getElem?_map, List.getElem?_eq_getElem hj, List.getD_eq_getElem?_getD, List.getElem?_eq_getElem hj]; rfl)
    · rintro e w' ⟨rfl, q, rfl⟩
      rw [bs_spec14 K key hr]
      refine ⟨?_, (Turn.refl _ _).drewN q⟩
      unfold hasK
      have hp := plK_le K key
      refine congrArg (fun b => Ending.returned (.tuple #[.int .i64 (plK K key : Nat), .bool b])) (decide_eq_decide.2 ?_)
      constructor
      · rintro ⟨h6, h7⟩
        rw [List.getD_eq_getElem?_getD, List.getElem?_eq_getElem h6] at h7
        rw [List.getElem?_eq_getElem h6]
        exact congrArg some h7
      · intro h6
        have h7 : plK K key < K.length := by
          rcases Nat.lt_or_ge (plK K key) K.length with h | h
          · exact h
          · rw [List.getElem?_eq_none h] at h6; cases h6
        exact ⟨h7, by rw [List.getD_eq_getElem?_getD, h6]; rfl⟩
theorem hasK_mem {K : List ByteArray} {key : ByteArray} (hr : risK K) : hasK K key = true ↔ key ∈ K := by
  unfold hasK
  rw [decide_eq_true_eq]
  constructor
  · exact List.mem_of_getElem?
  · intro hm
    obtain ⟨j, hj⟩ := List.getElem?_of_mem hm
    have hl := (List.getElem?_eq_some_iff.1 hj).1
    rcases Nat.lt_trichotomy j (plK K key) with h | h | h
    · have := plK_below hj h
      rw [lt14_self] at this
      cases this
    · rw [← h]; exact hj
    · obtain ⟨x, hx⟩ : ∃ x, K[plK K key]? = some x := ⟨_, List.getElem?_eq_getElem (by omega)⟩
      have h1 := plK_above hr hx (Nat.le_refl _)
      have h2 : lt14 x key = true := by
        have := List.pairwise_iff_getElem.1 hr (plK K key) j (by omega) hl h
        rw [List.getElem?_eq_getElem (by omega)] at hx
        rw [List.getElem?_eq_getElem hl] at hj
        cases hx; cases hj
        exact this
      rw [h1] at h2
      cases h2
end Go.Proofs.Ytaebhbdmmnpgeaa
