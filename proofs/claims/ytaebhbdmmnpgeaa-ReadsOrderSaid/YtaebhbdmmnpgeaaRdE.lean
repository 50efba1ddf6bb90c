/- Layer 16: what covers a key. -/
import Derived.Test.YtaebhbdmmnpgeaaRdD
import Derived.Laws.EntriesVeiled
namespace Go.Proofs.Ytaebhbdmmnpgeaa
open Go.RowKit Go.Shelf
set_option linter.unusedVariables false
set_option linter.unusedSimpArgs false
set_option maxRecDepth 100000
attribute [local go_sem] Oper.semAt_some

def cov16 (K : List ByteArray) (S : List Pq2) (key : ByteArray) : Bool := hasK K key || spd16 S key
/-- What asks whether reads cover a key. -/
def Clo16 (w : World) (f : Value) (K : List ByteArray) (S : List Pq2) : Prop :=
  (f = .func (.func 132) #[] #[] ∧ rgb16 K S = false) ∨
  ∃ (rb sb lb : Nat) (A1 : Option Addr) (n1 c1 : Nat) (A2 : Option Addr) (n2 c2 : Nat), f = .func (.func 133) #[] #[.pointer (some ⟨rb, 0, none⟩), .pointer (some ⟨sb, 0, none⟩)] ∧
    Blk w rb 60 [.slice A1 n1 c1, .slice A2 n2 c2] ∧ Blk w sb 32 [.func (.func 129) #[] #[.pointer (some ⟨lb, 0, none⟩)]] ∧ Blk w lb 58 [.slice A2 n2 c2] ∧ Kx w (.slice A1 n1 c1) K ∧ Px w (.slice A2 n2 c2) S ∧ Rgt16 K S
theorem Clo16.still {w w' : World} {f : Value} {K : List ByteArray} {S : List Pq2} (h : Clo16 w f K S) (ht : Turn (fun _ => False) w w') : Clo16 w' f K S := by
  rcases h with h | ⟨rb, sb, lb, A1, n1, c1, A2, n2, c2, e, h1, h2, h3, h4, h5, h6⟩
  · exact .inl h
  · exact .inr ⟨rb, sb, lb, A1, n1, c1, A2, n2, c2, e, h1.turn ht (fun h => h), h2.turn ht (fun h => h), h3.turn ht (fun h => h), h4.still ht, h5.still ht, h6⟩
theorem covering1_16 (key : ByteArray) (w : World) :
    Calls Try.prog 132 #[.string key] w fun e w' => e = .returned (.bool false) ∧ w = w' := by
  go_enter Try.func132, Try.ntmps132
  go_wp2_with fail
  go_ret
  exact ⟨rfl, rfl⟩
set_option maxHeartbeats 4000000 in
theorem covering2_16 (K : List ByteArray) (S : List Pq2) (key : ByteArray) (rb sb lb : Nat) (A1 : Option Addr) (n1 c1 : Nat) (A2 : Option Addr) (n2 c2 : Nat) (w : World)
    (h1 : Blk w rb 60 [.slice A1 n1 c1, .slice A2 n2 c2]) (h2 : Blk w sb 32 [.func (.func 129) #[] #[.pointer (some ⟨lb, 0, none⟩)]]) (h3 : Blk w lb 58 [.slice A2 n2 c2]) (h4 : Kx w (.slice A1 n1 c1) K) (h5 : Px w (.slice A2 n2 c2) S) (h6 : Rgt16 K S) :
    Calls Try.prog 133 #[.string key, .pointer (some ⟨rb, 0, none⟩), .pointer (some ⟨sb, 0, none⟩)] w fun e w' => e = .returned (.bool (cov16 K S key)) ∧ Turn (fun _ => False) w w' := by
  obtain ⟨x0, x1⟩ := cells2b16 h1
  have HB := Lib.hid (bsearch16 K _ key w h4 h6.2.2.1 (by have := h6.1.1; omega))
  have HW := Lib.hid (fun W (hW : Turn (fun _ => False) w W) => within1_16 S _ key lb W (h5.still hW) (h3.turn hW (fun h => h)))
  have HSB := Lib.hid h2
  unfold cov16
  clear h1 h2 h3 h4 h5 h6
  cases hh : hasK K key with
  | true =>
    rw [hh] at HB
    go_enter Try.func133, Try.ntmps133
    go_wp2_with (go_at_call 74; refine HB.out.mono ?_; rintro e w2 ⟨rfl, ht2⟩; have T2 := Lib.hid ht2; clear ht2)
    go_ret
    exact ⟨rfl, T2.out⟩
  | false =>
    rw [hh] at HB
    simp only [Bool.false_or]
    go_enter Try.func133, Try.ntmps133
    go_wp2_with (first
      | (go_at_call 74; refine HB.out.mono ?_; rintro e w2 ⟨rfl, ht2⟩; have T2 := Lib.hid ht2; have s0 := (HSB.out.turn ht2 (fun h => h)).cell 0; clear ht2)
      | (go_at_call 129; refine (HW.out _ T2.out).mono ?_; rintro e w3 ⟨rfl, ht3⟩; have T3 := Lib.hid (T2.out.trans ht3); clear ht3))
    go_ret
    exact ⟨rfl, T3.out⟩
set_option maxHeartbeats 4000000 in
theorem covering_16 (K : List ByteArray) (S : List Pq2) (A1 : Option Addr) (n1 c1 : Nat) (A2 : Option Addr) (n2 c2 : Nat) (w : World) (hk : Kx w (.slice A1 n1 c1) K) (hs : Px w (.slice A2 n2 c2) S) :
    Calls Try.prog 88 #[.agg #[.slice A1 n1 c1, .slice A2 n2 c2]] w fun e w' => ∃ f, e = .returned f ∧ Clo16 w' f K S ∧ Turn (fun _ => False) w w' := by
  have HC := Lib.hid (fun W (hW : Turn (fun _ => False) w W) => check_16 K S A1 n1 c1 A2 n2 c2 W (hk.still hW) (hs.still hW))
  obtain ⟨W1, hW1⟩ : ∃ W, w.alloc (.cells #[.slice A1 n1 c1, .slice A2 n2 c2] 60) = W := ⟨_, rfl⟩
  have T1 : Hid (Turn (fun _ => False) w W1) := Lib.hid (hW1 ▸ (Turn.refl _ _).alloc _)
  have B1 : Hid (Blk W1 w.heap.size 60 [.slice A1 n1 c1, .slice A2 n2 c2]) := Lib.hid (hW1 ▸ Blk.new _ _ _)
  obtain ⟨x0, x1⟩ := cells2b16 B1.out
  have HK := Lib.hid hk
  have HS := Lib.hid hs
  clear hk hs
  cases hr : rgb16 K S with
  | false =>
    rw [hr] at HC
    simp only [Bool.false_eq_true, if_false] at HC
    have HR := Lib.hid hr
    clear hr
    go_enter Try.func88, Try.ntmps88
    go_wp2_with (go_at_call 33; refine (HC.out _ T1.out).mono ?_; rintro e w2 ⟨rfl, ht2⟩; have T2 := Lib.hid (T1.out.trans ht2); clear ht2)
    go_ret
    exact ⟨_, rfl, .inl ⟨rfl, HR.out⟩, T2.out⟩
  | true =>
    rw [hr] at HC
    simp only [if_true] at HC
    have HR := Lib.hid (rgb_iff.1 hr)
    clear hr
    go_enter Try.func88, Try.ntmps88
    go_wp2_with (first
      | (go_at_call 33; refine (HC.out _ T1.out).mono ?_; rintro e w2 ⟨rfl, ht2⟩; have T2 := Lib.hid (T1.out.trans ht2); have B2 := Lib.hid (B1.out.turn ht2 (fun h => h)); obtain ⟨y0, y1⟩ := cells2b16 B2.out; clear ht2)
      | (go_at_call 83; refine (within_16 A2 n2 c2 _).mono ?_; rintro e w3 ⟨rfl, hw3⟩; have T3 : Hid (Turn (fun _ => False) w2 w3) := Lib.hid (hw3 ▸ (Turn.refl _ _).alloc _); have L3 : Hid (Blk w3 w2.heap.size 58 [.slice A2 n2 c2]) := Lib.hid (hw3 ▸ Blk.new _ _ _); clear hw3))
    go_ret
    have ht := (Turn.refl (fun _ => False) w3).alloc (.cells #[.func (.func 129) #[] #[.pointer (some ⟨w2.heap.size, 0, none⟩)]] 32)
    have htt := T2.out.trans (T3.out.trans ht)
    exact ⟨_, rfl, .inr ⟨w.heap.size, w3.heap.size, w2.heap.size, A1, n1, c1, A2, n2, c2, rfl, (B2.out.turn T3.out (fun h => h)).turn ht (fun h => h), Blk.new _ _ _, L3.out.turn ht (fun h => h), HK.out.still htt, HS.out.still htt, HR.out⟩, htt⟩
/-- A call of what covers. -/
theorem Clo16.call {w : World} {K : List ByteArray} {S : List Pq2} {f : Value} (h : Clo16 w f K S) : ∃ (g : Nat) (cs : Array Value), f = .func (.func g) #[] cs ∧ (g = 132 ∨ g = 133) ∧ ∀ (key : ByteArray) (W : World), Turn (fun _ => False) w W → Calls Try.prog g (#[.string key] ++ cs) W fun e w' => e = .returned (.bool (rgb16 K S && cov16 K S key)) ∧ Turn (fun _ => False) W w' := by
  rcases h with ⟨rfl, h⟩ | ⟨rb, sb, lb, A1, n1, c1, A2, n2, c2, rfl, h1, h2, h3, h4, h5, h6⟩
  · refine ⟨_, _, rfl, .inl rfl, fun key W hW => ?_⟩
    rw [h, Bool.false_and]
    exact (covering1_16 key W).mono fun e w' ⟨he, hw⟩ => ⟨he, hw ▸ Turn.refl _ _⟩
  · refine ⟨_, _, rfl, .inr rfl, fun key W hW => ?_⟩
    rw [rgb_yes h6, Bool.true_and]
    exact covering2_16 K S key rb sb lb A1 n1 c1 A2 n2 c2 W (h1.turn hW (fun h => h)) (h2.turn hW (fun h => h)) (h3.turn hW (fun h => h)) (h4.still hW) (h5.still hW) h6
set_option maxHeartbeats 4000000 in
theorem covers_16 (K : List ByteArray) (S : List Pq2) (key : ByteArray) (A1 : Option Addr) (n1 c1 : Nat) (A2 : Option Addr) (n2 c2 : Nat) (w : World) (hk : Kx w (.slice A1 n1 c1) K) (hs : Px w (.slice A2 n2 c2) S) :
    Calls Try.prog 36 #[.agg #[.slice A1 n1 c1, .slice A2 n2 c2], .string key] w fun e w' => e = .returned (.bool (rgb16 K S && cov16 K S key)) ∧ Turn (fun _ => False) w w' := by
  have HC := Lib.hid (fun W (hW : Turn (fun _ => False) w W) => covering_16 K S A1 n1 c1 A2 n2 c2 W (hk.still hW) (hs.still hW))
  clear hk hs
  go_enter Try.func36, Try.ntmps36
  go_wp2_with fail
  refine (HC.out _ ((Turn.refl _ _).alloc _)).mono ?_
  rintro e w2 ⟨f, rfl, hcl, ht2⟩
  have T2 := Lib.hid (((Turn.refl (fun _ => False) w).alloc (.cells #[.slice A1 n1 c1, .slice A2 n2 c2] 60)).trans ht2)
  have HCL := Lib.hid hcl.call
  clear hcl ht2
  obtain ⟨g, cs, rfl, hg, hcall⟩ := HCL.out
  have HCA := Lib.hid (hcall key w2 (Turn.refl _ _))
  clear hcall HCL
  rcases hg with rfl | rfl
  · go_wp2_with (go_at_call 132; refine HCA.out.mono ?_; rintro e w3 ⟨rfl, ht3⟩; have T3 := Lib.hid (T2.out.trans ht3); clear ht3)
    go_ret
    exact ⟨rfl, T3.out⟩
  · go_wp2_with (go_at_call 133; refine HCA.out.mono ?_; rintro e w3 ⟨rfl, ht3⟩; have T3 := Lib.hid (T2.out.trans ht3); clear ht3)
    go_ret
    exact ⟨rfl, T3.out⟩
end Go.Proofs.Ytaebhbdmmnpgeaa
