/- Layer 13: the program's place, cut. -/
import Derived.Test.YtjkfgbmlhglnfaaVcH
import Derived.Test.YtjkfgbmlhglnfaaSrch
import Derived.Test.YtjkfgbmlhglnfaaAppB
namespace Go.Proofs.Ytjkfgbmlhglnfaa
open Go.RowKit
set_option linter.unusedVariables false
set_option linter.unusedSimpArgs false
set_option maxRecDepth 100000

/-- The place of the first version whose time is not above t. -/
def plc (L : List Vn) (t : Int) : Nat := L.findIdx (fun x => decide (x.t ≤ t))
def kt (L : List Vn) (i : Nat) : Int := match L[i]? with
  | some x => x.t
  | none => 0
theorem kt_at {L : List Vn} {i : Nat} {x : Vn} (h : L[i]? = some x) : kt L i = x.t := by unfold kt; rw [h]
theorem plc_le (L : List Vn) (t : Int) : plc L t ≤ L.length := List.findIdx_le_length
theorem plc_is {L : List Vn} {t : Int} {r : Nat} (h0 : r ≤ L.length) (h1 : ∀ i, i < r → decide (kt L i ≤ t) = false) (h2 : r < L.length → decide (kt L r ≤ t) = true) : plc L t = r := by
  induction L generalizing r with
  | nil => simp [plc] at *; omega
  | cons a L ih =>
    unfold plc at *
    rw [List.findIdx_cons]
    cases r with
    | zero =>
      have := h2 (by simp)
      rw [kt_at (L := a :: L) (i := 0) rfl] at this
      rw [this]; rfl
    | succ r =>
      have h3 := h1 0 (by omega)
      rw [kt_at (L := a :: L) (i := 0) rfl] at h3
      rw [h3, ih (r := r) (by simpa using h0) (fun i hi => by have := h1 (i + 1) (by omega); exact this) (fun hi => by have := h2 (by simpa using hi); exact this)]
      rfl
theorem dn_mono {L : List Vn} (h : Dn L) {a b : Nat} (hab : a ≤ b) (hb : b < L.length) (t : Int) (h1 : decide (kt L a ≤ t) = true) : decide (kt L b ≤ t) = true := by
  rcases Nat.lt_or_ge a b with h2 | h2
  · have h3 := List.pairwise_iff_getElem.1 h.2 a b (by omega) hb h2
    rw [kt_at (List.getElem?_eq_getElem hb)]
    rw [kt_at (List.getElem?_eq_getElem (by omega))] at h1
    simp at h1 ⊢
    omega
  · have : a = b := by omega
    subst this
    exact h1
theorem place1_13 (L : List Vn) (A : Option Addr) (c : Nat) (t : Int) (bl bt i : Nat) (w : World) (hi : i < L.length) (h : Vr w (.slice A L.length c) L)
    (hc : w.cell? ⟨bl, 0, none⟩ = some (.slice A L.length c)) (hk : w.cell? ⟨bt, 0, none⟩ = some (.int .i64 t)) :
    Calls Try.prog 167 #[.int .i64 i, .pointer (some ⟨bl, 0, none⟩), .pointer (some ⟨bt, 0, none⟩)] w fun e w' => e = .returned (.bool (decide (kt L i ≤ t))) ∧ Turn (fun _ => False) w w' := by
  obtain ⟨x, hx⟩ : ∃ x, L[i]? = some x := ⟨_, List.getElem?_eq_getElem hi⟩
  rw [kt_at hx]
  obtain ⟨A', c', e, hl, hr⟩ := h
  injection e with e1 _ e3
  subst e1 e3
  obtain ⟨b, o, rfl, hb, hcc⟩ := hr (by omega)
  obtain ⟨c0, c1, c2⟩ := hcc i x hx
  have hi1 : (i : Int) < (L.length : Int) := by omega
  have hi2 : (0 : Int) ≤ (i : Int) := by omega
  clear hcc hx hr
  generalize L.length = n at *
  go_enter Try.func167, Try.ntmps167
  go_wp2_with fail
  go_quiet (fail)
  go_wp2_with fail
  go_ret
  exact ⟨rfl, (Turn.refl _ w).drewN _⟩
theorem place13 (L : List Vn) (v : Value) (t : Int) (w : World) (h : Vr w v L) (hd : chn L = true) (hb : L.length ≤ 1000000000000000) :
    Calls Try.prog 147 #[v, .int .i64 t] w fun e w' => e = .returned (.int .i64 (plc L t : Nat)) ∧ Turn (fun _ => False) w w' := by
  have hD := (chn_iff L).1 hd
  obtain ⟨A, c, rfl⟩ := h.len
  have T2 := Lib.hid (((Turn.refl (fun _ => False) w).alloc (.cells #[.slice A L.length c] 38)).alloc (.cells #[.int .i64 t] 3))
  have B1 := Lib.hid ((Blk.new w 38 [.slice A L.length c]).alloc (.cells #[.int .i64 t] 3))
  have B2 := Lib.hid (Blk.new (w.alloc (.cells #[.slice A L.length c] 38)) 3 [.int .i64 t])
  obtain ⟨W2, hW2⟩ : ∃ W, (w.alloc (.cells #[.slice A L.length c] 38)).alloc (.cells #[.int .i64 t] 3) = W := ⟨_, rfl⟩
  have hs : (w.alloc (.cells #[.slice A L.length c] 38)).heap.size = w.heap.size + 1 := by simp
  rw [hs] at B2
  rw [hW2] at T2 B1 B2
  have HC := Lib.hid (search_n 167 #[.pointer (some ⟨w.heap.size, 0, none⟩), .pointer (some ⟨w.heap.size + 1, 0, none⟩)] L.length (fun i => decide (kt L i ≤ t)) W2 (fun _ _ => rfl) hb
    (fun X hX i hi => place1_13 L A c t _ _ i X hi (h.still (T2.out.trans hX)) ((B1.out.turn hX (fun h => h)).cell 0) ((B2.out.turn hX (fun h => h)).cell 0))
    (fun a b h1 h2 h3 => dn_mono hD h1 h2 t h3))
  have HP := Lib.hid (fun r h0 h1 h2 => plc_is (L := L) (t := t) (r := r) h0 h1 h2)
  have c0 : W2.cell? ⟨w.heap.size, 0, none⟩ = some (.slice A L.length c) := B1.out.cell 0
  clear hs h hd hD B1 B2
  generalize plc L t = p at *
  generalize L.length = n at *
  go_enter Try.func147, Try.ntmps147
  go_wp2_with (go_at_call 166; refine HC.out.mono ?_; rintro e w3 ⟨⟨r, rfl, hr, h1, h2⟩, ht⟩; have hp := HP.out r hr h1 h2; have T3 := Lib.hid (T2.out.trans ht); clear ht h1 h2)
  go_ret
  exact ⟨by rw [hp]; rfl, T3.out⟩
/-- A slice's length is at most its capacity. -/
def Cv (v : Value) : Prop := ∀ A n c, v = .slice A n c → n ≤ c
/-- A slice's length is at most its capacity, and what it holds lies above a base. -/
def Cw (B : Nat) (v : Value) : Prop := ∀ A n c, v = .slice A n c → n ≤ c ∧ (0 < n → ∀ a, A = some a → B ≤ a.block)
theorem Cw.cv {B : Nat} {v : Value} (h : Cw B v) : Cv v := fun A n c e => (h A n c e).1
end Go.Proofs.Ytjkfgbmlhglnfaa
