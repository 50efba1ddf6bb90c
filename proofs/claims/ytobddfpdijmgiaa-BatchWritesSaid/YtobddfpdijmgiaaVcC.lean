/- Layer 13: the document's Check, Since, At. -/
import Derived.Test.YtobddfpdijmgiaaVcB
namespace Go.Proofs.Ytobddfpdijmgiaa
open Go.RowKit
set_option linter.unusedVariables false
set_option linter.unusedSimpArgs false
set_option maxRecDepth 100000

theorem find_at {α : Type} {p : α → Bool} : ∀ {L : List α} {i : Nat} {x : α}, (∀ (j : Nat) (y : α), j < i → L[j]? = some y → p y = false) → L[i]? = some x → p x = true → L.find? p = some x
  | [], i, x, _, h, _ => by simp at h
  | a :: L, 0, x, _, h, hp => by
    simp at h; subst h
    rw [List.find?_cons, hp]
  | a :: L, i + 1, x, h0, h, hp => by
    rw [List.find?_cons, h0 0 a (by omega) rfl]
    exact find_at (i := i) (fun j y hj hy => h0 (j + 1) y (by omega) (by simpa using hy)) (by simpa using h) hp
theorem find_none_ {α : Type} {p : α → Bool} {L : List α} (h : ∀ (j : Nat) (y : α), L[j]? = some y → p y = false) : L.find? p = none := by
  rw [List.find?_eq_none]
  intro x hx
  obtain ⟨j, hj⟩ := List.getElem?_of_mem hx
  simp [h j x hj]
def fnd (L : List Vn) (t : Int) : ByteArray × Bool := match L.find? (fun x => decide (x.t ≤ t)) with
  | some x => (x.s, !x.d)
  | none => (ByteArray.empty, false)
def at13 (L : List Vn) (t : Int) : ByteArray × Bool := if chn L then fnd L t else (ByteArray.empty, false)
def snc (L : List Vn) (t : Int) : Bool := chn L && (match L[0]? with
  | some x => decide (t < x.t)
  | none => false)
theorem Vr.len {w : World} {v : Value} {L : List Vn} (h : Vr w v L) : ∃ A c, v = .slice A L.length c := by obtain ⟨A, c, e, _⟩ := h; exact ⟨A, c, e⟩
set_option maxHeartbeats 4000000 in
theorem refAt13 (L : List Vn) (v : Value) (t : Int) (w : World) (h : Vr w v L) :
    Calls Try.prog 106 #[v, .int .i64 t] w fun e w' => e = .returned (.tuple #[.string (at13 L t).1, .bool (at13 L t).2]) ∧ Turn (fun _ => False) w w' := by
  have HR := Lib.hid (refRight13s L v w h)
  obtain ⟨A, c, rfl, hl, hr⟩ := h
  obtain ⟨n, hn⟩ : ∃ n, L.length = n := ⟨_, rfl⟩
  have HN := Lib.hid hn
  have HRW := Lib.hid hr
  rw [hn] at hl HR HRW ⊢
  clear hn hr
  unfold at13
  cases hch : chn L with
  | false =>
    rw [hch] at HR
    clear hch
    go_enter Try.func106, Try.ntmps106
    go_wp2_with (go_at_call 56; refine HR.out.mono ?_; rintro e w' ⟨rfl, ht⟩)
    go_ret2
    exact ⟨rfl, ht⟩
  | true =>
    rw [hch] at HR
    clear hch
    rw [if_pos rfl]
    obtain ⟨R, hR⟩ : ∃ R, fnd L t = R := ⟨_, rfl⟩
    have HRR := Lib.hid hR
    rw [hR]
    clear hR
    go_enter Try.func106, Try.ntmps106
    go_wp2_with (go_at_call 56; refine HR.out.mono ?_; rintro e w1 ⟨rfl, ht⟩; have T1 := Lib.hid ht; clear ht)
    go_loopw [6] (fun v6 wr => ∃ i : Nat, i ≤ n ∧ v6 = .int .i64 i ∧ Hid (∀ (j : Nat) (y : Vn), j < i → L[j]? = some y → decide (y.t ≤ t) = false) ∧ wr = w1) (fun v6 _ => n - (intOf v6).toNat)
    case atStart => exact ⟨0, Nat.zero_le _, rfl, Lib.hid (fun j y hj => absurd hj (by omega)), rfl⟩
    case round =>
      obtain ⟨i, hi, rfl, HOK, hw⟩ := hrel
      obtain rfl : w1 = wr := hw.symm
      by_cases hlt : i < n
      · have hl1 : (i : Int) < (n : Int) := by omega
        have hl0 : (0 : Int) ≤ (i : Int) := by omega
        have hq := wrap_of ((i : Int) + 1) (by omega) (by omega)
        obtain ⟨x, hx⟩ : ∃ x, L[i]? = some x := ⟨_, List.getElem?_eq_getElem (by rw [HN.out]; exact hlt)⟩
        have HX := Lib.hid hx
        obtain ⟨b, o, rfl, hb, hc⟩ := HRW.out (by omega)
        obtain ⟨c0, c1, c2⟩ := hc i x hx
        have hk : ∀ j, w1.cell? ⟨b, j, none⟩ = w.cell? ⟨b, j, none⟩ := fun j => World.cell?_of_block (w := w) (a := ⟨b, j, none⟩) (T1.out.block b hb (fun h => h))
        rw [← hk] at c0 c1 c2
        clear hx hb hc hk
        by_cases hle : x.t ≤ t
        · have HF : Hid (R = (x.s, !x.d)) := Lib.hid (by rw [← HRR.out]; unfold fnd; rw [find_at HOK.out HX.out (by simpa using hle)])
          go_wp2_with fail
          go_quiet (fail)
          go_wp2_with fail
          go_ret2
          exact ⟨by rw [HF.out]; rfl, T1.out.drewN _⟩
        · have HNX : Hid (∀ (j : Nat) (y : Vn), j < i + 1 → L[j]? = some y → decide (y.t ≤ t) = false) := Lib.hid (fun j y hj hy => by
            rcases Nat.lt_or_ge j i with h1 | h1
            · exact HOK.out j y h1 hy
            · have e : j = i := (by omega)
              subst e
              rw [HX.out] at hy
              cases hy
              simpa using hle)
          go_wp2_with fail
          go_roundw
          case rel => exact ⟨i + 1, by omega, by simp [hq], HNX, by first | rfl | trivial⟩
          case measure => simp [intOf, hq]; omega
      · obtain rfl : i = n := by omega
        have HF : Hid (R = (ByteArray.empty, false)) := Lib.hid (by rw [← HRR.out]; unfold fnd; rw [find_none_ (fun j y hy => HOK.out j y (by
          rw [← HN.out]
          rcases Nat.lt_or_ge j L.length with h1 | h1
          · exact h1
          · rw [List.getElem?_eq_none h1] at hy; cases hy) hy)])
        go_wp2_with fail
        go_ret2
        exact ⟨by rw [HF.out]; rfl, T1.out⟩
theorem snc_false {L : List Vn} (t : Int) (h : chn L = false) : snc L t = false := by unfold snc; rw [h]; rfl
theorem snc_nil (t : Int) : snc [] t = false := by unfold snc; simp
theorem snc_cons {x : Vn} {L : List Vn} (t : Int) (h : chn (x :: L) = true) : snc (x :: L) t = decide (t < x.t) := by unfold snc; rw [h]; simp
theorem refSince13 (L : List Vn) (v : Value) (t : Int) (w : World) (h : Vr w v L) :
    Calls Try.prog 109 #[v, .int .i64 t] w fun e w' => e = .returned (.bool (snc L t)) ∧ Turn (fun _ => False) w w' := by
  have HR := Lib.hid (refRight13s L v w h)
  obtain ⟨A, c, rfl, hl, hr⟩ := h
  obtain ⟨n, hn⟩ : ∃ n, L.length = n := ⟨_, rfl⟩
  have HN := Lib.hid hn
  have HRW := Lib.hid hr
  rw [hn] at hl HR HRW ⊢
  clear hn hr
  cases hch : chn L with
  | false =>
    rw [hch] at HR
    rw [snc_false t hch]
    clear hch
    go_enter Try.func109, Try.ntmps109
    go_wp2_with (go_at_call 56; refine HR.out.mono ?_; rintro e w' ⟨rfl, ht⟩)
    go_ret
    exact ⟨rfl, ht⟩
  | true =>
    rw [hch] at HR
    cases L with
    | nil =>
      rw [snc_nil]
      clear hch
      obtain rfl : n = 0 := HN.out.symm
      go_enter Try.func109, Try.ntmps109
      go_wp2_with (go_at_call 56; refine HR.out.mono ?_; rintro e w' ⟨rfl, ht⟩)
      go_ret
      exact ⟨rfl, ht⟩
    | cons x L =>
      rw [snc_cons t hch]
      clear hch
      have hn0 : (0 : Int) < (n : Int) := by have := HN.out; simp at this; omega
      have hn1 : 0 < n := by omega
      obtain ⟨b, o, rfl, hb, hc⟩ := HRW.out hn1
      obtain ⟨c0, c1, c2⟩ := hc 0 x rfl
      have HC : Hid (∀ X, Turn (fun _ => False) w X → X.cell? ⟨b, o, none⟩ = some (.int .i64 x.t)) := Lib.hid (fun X hX => (World.cell?_of_block (w := w) (a := ⟨b, o, none⟩) (hX.block b hb (fun h => h))).trans (by simpa using c0))
      clear hb hc c0 c1 c2
      have hd : decide (0 < n) = true := by simpa using hn1
      go_enter Try.func109, Try.ntmps109
      go_wp2_with (go_at_call 56; refine HR.out.mono ?_; rintro e w' ⟨rfl, ht⟩; have c0 := HC.out _ ht)
      go_ret
      exact ⟨rfl, ht⟩
end Go.Proofs.Ytobddfpdijmgiaa
