/- Layer 13: the document's Check, Since, At. -/
import Derived.Test.YtjkfgbmlhglnfaaVcB
namespace Go.Proofs.Ytjkfgbmlhglnfaa
open Go.RowKit
set_option linter.unusedVariables false
set_option linter.unusedSimpArgs false
set_option maxRecDepth 100000

theorem find_at {α : Type} {p : α → Bool} : ∀ {L : List α} {i : Nat} {x : α}, (∀ (j : Nat) (y : α), j < i → L[j]? = some y → p y = false) → L[i]? = some x → p x = true → L.find? p = some x
  | [], i, x, _, h, _ => by simp at h
  | a :: L, 0, x, _, h, hp => by
    simp at h; subst h
    rw [List.find?_cons, hp]
  | a :: L, i + 1, x, h0, h, hp => by
    rw [List.find?_cons, h0 0 a (by omega) rfl]
    exact find_at (i := i) (fun j y hj hy => h0 (j + 1) y (by omega) (by simpa using hy)) (by simpa using h) hp
theorem find_none_ {α : Type} {p : α → Bool} {L : List α} (h : ∀ (j : Nat) (y : α), L[j]? = some y → p y = false) : L.find? p = none := by
  rw [List.find?_eq_none]
  intro x hx
  obtain ⟨j, hj⟩ := List.getElem?_of_mem hx
  simp [h j x hj]
def fnd (L : List Vn) (t : Int) : ByteArray × Bool := match L.find? (fun x => decide (x.t ≤ t)) with
  | some x => (x.s, !x.d)
  | none => (ByteArray.empty, false)
def at13 (L : List Vn) (t : Int) : ByteArray × Bool := if chn L then fnd L t else (ByteArray.empty, false)
def snc (L : List Vn) (t : Int) : Bool := chn L && (match L[0]? with
  | some x => decide (t < x.t)
  | none => false)
theorem Vr.len {w : World} {v : Value} {L : List Vn} (h : Vr w v L) : ∃ A c, v = .slice A L.length c := by obtain ⟨A, c, e, _⟩ := h; exact ⟨A, c, e⟩
theorem snc_false {L : List Vn} (t : Int) (h : chn L = false) : snc L t = false := by unfold snc; rw [h]; rfl
theorem snc_nil (t : Int) : snc [] t = false := by unfold snc; simp
theorem snc_cons {x : Vn} {L : List Vn} (t : Int) (h : chn (x :: L) = true) : snc (x :: L) t = decide (t < x.t) := by unfold snc; rw [h]; simp
theorem refSince13 (L : List Vn) (v : Value) (t : Int) (w : World) (h : Vr w v L) :
    Calls Try.prog 121 #[v, .int .i64 t] w fun e w' => e = .returned (.bool (snc L t)) ∧ Turn (fun _ => False) w w' := by
  have HR := Lib.hid (refRight13s L v w h)
  obtain ⟨A, c, rfl, hl, hr⟩ := h
  obtain ⟨n, hn⟩ : ∃ n, L.length = n := ⟨_, rfl⟩
  have HN := Lib.hid hn
  have HRW := Lib.hid hr
  rw [hn] at hl HR HRW ⊢
  clear hn hr
  cases hch : chn L with
  | false =>
    rw [hch] at HR
    rw [snc_false t hch]
    clear hch
    go_enter Try.func121, Try.ntmps121
    go_wp2_with (go_at_call 76; refine HR.out.mono ?_; rintro e w' ⟨rfl, ht⟩)
    go_ret
    exact ⟨rfl, ht⟩
  | true =>
    rw [hch] at HR
    cases L with
    | nil =>
      rw [snc_nil]
      clear hch
      obtain rfl : n = 0 := HN.out.symm
      go_enter Try.func121, Try.ntmps121
      go_wp2_with (go_at_call 76; refine HR.out.mono ?_; rintro e w' ⟨rfl, ht⟩)
      go_ret
      exact ⟨rfl, ht⟩
    | cons x L =>
      rw [snc_cons t hch]
      clear hch
      have hn0 : (0 : Int) < (n : Int) := by have := HN.out; simp at this; omega
      have hn1 : 0 < n := by omega
      obtain ⟨b, o, rfl, hb, hc⟩ := HRW.out hn1
      obtain ⟨c0, c1, c2⟩ := hc 0 x rfl
      have HC : Hid (∀ X, Turn (fun _ => False) w X → X.cell? ⟨b, o, none⟩ = some (.int .i64 x.t)) := Lib.hid (fun X hX => (World.cell?_of_block (w := w) (a := ⟨b, o, none⟩) (hX.block b hb (fun h => h))).trans (by simpa using c0))
      clear hb hc c0 c1 c2
      have hd : decide (0 < n) = true := by simpa using hn1
      go_enter Try.func121, Try.ntmps121
      go_wp2_with (go_at_call 76; refine HR.out.mono ?_; rintro e w' ⟨rfl, ht⟩; have c0 := HC.out _ ht)
      go_ret
      exact ⟨rfl, ht⟩
end Go.Proofs.Ytjkfgbmlhglnfaa
