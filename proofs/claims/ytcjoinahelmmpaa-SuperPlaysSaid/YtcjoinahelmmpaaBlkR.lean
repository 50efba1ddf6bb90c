/- Layer 4: the document's disk: what a sector has. -/
import Derived.Test.YtcjoinahelmmpaaBlkQ
namespace Go.Proofs.Ytcjoinahelmmpaa
open Go.RowKit Go.Maps
set_option linter.unusedVariables false

theorem own_at_ {w : World} {b t s n : Nat} {A : Option Addr} {c : Nat} {xs : List Value} (h : w.ownsRow b t s (.slice A n c) n xs) {k : Nat} {u : Value} (hu : xs[k]? = some u) : ∃ g, A = some ⟨g, 0, none⟩ ∧ w.cell? ⟨g, k, none⟩ = some u := by
  obtain ⟨hx, ⟨e, h0⟩ | ⟨g, c', cur, e, hB, hh, hnc, hm, hs, ht⟩⟩ := h
  · subst h0
    rw [Nat.zero_mul] at hx
    rw [List.eq_nil_of_length_eq_zero hx] at hu
    cases hu
  · injection e with e1 e2 e3
    refine ⟨g, e1, ?_⟩
    rw [← ht, List.getElem?_take] at hu
    split at hu
    · simpa [World.cell?, hh] using hu
    · cases hu
theorem own_mono_ {w : World} {B B' t s n : Nat} {v : Value} {xs : List Value} (h : w.ownsRow B t s v n xs) (hb : B' ≤ B) : w.ownsRow B' t s v n xs := by
  obtain ⟨hx, h | ⟨g, c, cur, e, hB, hr⟩⟩ := h
  · exact ⟨hx, .inl h⟩
  · exact ⟨hx, .inr ⟨g, c, cur, e, Nat.le_trans hb hB, hr⟩⟩
theorem len_pv (x : Nat × List UInt8) : (pv x).length = 2 := rfl
theorem Rm.pend_at {w : World} {D : Dsk} {ks : List (List UInt8)} {A B : Option Addr} {c d : Nat} (h : Rm w D ks A c B d) {j : Nat} {x : Nat × List UInt8} (hx : D.pend[j]? = some x) : ∃ g, B = some ⟨g, 0, none⟩ ∧ w.cell? ⟨g, j * 2, none⟩ = some (.int .i64 (x.1 : Int)) ∧ w.cell? ⟨g, j * 2 + 1, none⟩ = some (sv x.2) := by
  have e0 := flat_at pv 2 D.pend (fun y _ => rfl) j 0 x hx (by omega)
  have e1 := flat_at pv 2 D.pend (fun y _ => rfl) j 1 x hx (by omega)
  obtain ⟨g, hg, h0⟩ := own_at_ h.pend (k := j * 2 + 0) (u := .int .i64 (x.1 : Int)) (by rw [e0]; rfl)
  obtain ⟨g', hg', h1⟩ := own_at_ h.pend (k := j * 2 + 1) (u := sv x.2) (by rw [e1]; rfl)
  rw [hg] at hg'
  injection hg' with hg'
  injection hg' with hg'
  subst hg'
  exact ⟨g, hg, h0, h1⟩
theorem Rm.kept_at {w : World} {D : Dsk} {ks : List (List UInt8)} {A B : Option Addr} {c d : Nat} (h : Rm w D ks A c B d) {j : Nat} {s : List UInt8} (hx : ks[j]? = some s) : ∃ g, A = some ⟨g, 0, none⟩ ∧ w.cell? ⟨g, j, none⟩ = some (sv s) :=
  own_at_ h.kept (by rw [List.getElem?_map, hx]; rfl)
theorem overw_no {l : List (Nat × List UInt8)} {i : Nat} (s : List UInt8) (h : ∀ (m : Nat) (y : Nat × List UInt8), l[m]? = some y → y.1 ≠ i) : overw l i s = s := by
  induction l using snoc_ind with
  | h0 => rfl
  | h1 l x ih =>
    rw [overw_snoc, if_neg (h l.length x (by simp))]
    exact ih fun m y hy => h m y (by rw [List.getElem?_append_left (List.getElem?_eq_some_iff.1 hy).1]; exact hy)
theorem overw_last {l : List (Nat × List UInt8)} {i n : Nat} {x : Nat × List UInt8} (s : List UInt8) (hx : l[n]? = some x) (he : x.1 = i) (h : ∀ (m : Nat) (y : Nat × List UInt8), n < m → l[m]? = some y → y.1 ≠ i) : overw l i s = x.2 := by
  induction l using snoc_ind with
  | h0 => cases hx
  | h1 l z ih =>
    rw [overw_snoc]
    have hn : n < l.length + 1 := by have := (List.getElem?_eq_some_iff.1 hx).1; simpa using this
    rcases Nat.lt_or_ge n l.length with hlt | hge
    · rw [if_neg (h l.length z hlt (by simp))]
      rw [List.getElem?_append_left hlt] at hx
      exact ih hx fun m y hm hy => h m y hm (by rw [List.getElem?_append_left (List.getElem?_eq_some_iff.1 hy).1]; exact hy)
    · obtain rfl : n = l.length := by omega
      obtain rfl : z = x := by simpa using hx
      rw [if_pos he]
set_option maxRecDepth 100000 in
set_option maxHeartbeats 4000000 in
theorem has_r {w : World} {D : Dsk} {ks : List (List UInt8)} {A B : Option Addr} {c d : Nat} (h : Rm w D ks A c B d) (i : Nat) (hi : i < D.kept.length) (hp : D.pend.length ≤ 1000000000) (N F : Int) (dd : Bool) :
    Calls Try.prog 65 #[.agg #[.int .i64 N, .slice A ks.length c, .slice B D.pend.length d, .int .i64 F, .bool dd], .int .i64 i] w fun e w' => e = .returned (sv (D.has i)) ∧ Turn (fun _ => False) w w' := by
  have hik : i < ks.length := by rw [h.len]; exact hi
  obtain ⟨s, hs⟩ : ∃ s, ks[i]? = some s := ⟨_, List.getElem?_eq_getElem hik⟩
  have hke : D.kept.getD i [] = full s := by rw [← h.full, List.getD_eq_getElem?_getD, List.getElem?_map, hs]; rfl
  have hsm : s.length ≤ 128 := h.most s (List.mem_of_getElem? hs)
  obtain ⟨gA, eA, hcA⟩ := h.kept_at hs
  subst eA
  have HF : Hid (∀ w', Calls Try.prog 35 #[sv s] w' fun e w'' => e = .returned (sv (full s)) ∧ Turn (fun _ => False) w' w'') := Lib.hid (fun w' => by
    have := full_r ⟨s.toArray⟩ (by simpa [ByteArray.size] using hsm) w'
    simpa [sv] using this)
  have H := Lib.hid (h.still ((Turn.refl (fun _ => False) w).alloc (.cells #[.int .i64 N, .slice (some ⟨gA, 0, none⟩) ks.length c, .slice B D.pend.length d, .int .i64 F, .bool dd] 46)))
  have hA : Hid ((w.alloc (.cells #[.int .i64 N, .slice (some ⟨gA, 0, none⟩) ks.length c, .slice B D.pend.length d, .int .i64 F, .bool dd] 46)).cell? ⟨gA, i, none⟩ = some (sv s)) := Lib.hid (by
    obtain ⟨g, e, hc⟩ := H.out.kept_at hs
    injection e with e
    injection e with e
    subst e
    exact hc)
  have HH : Hid (∀ x, overw D.pend i (full s) = x → D.has i = x) := Lib.hid (fun x hx => by unfold Dsk.has; rw [hke]; exact hx)
  have hw0 := wrap_of ((D.pend.length : Int) - 1) (by omega) (by omega)
  have hi0 : (0 : Int) ≤ (i : Int) := Int.natCast_nonneg _
  have hi1 : (i : Int) < (ks.length : Int) := by omega
  clear h hs hke hsm hcA
  go_enter Try.func65, Try.ntmps65
  go_wp2
  go_loopw [5] (fun v wr => ∃ k : Int, -1 ≤ k ∧ k < D.pend.length ∧ v = .int .i64 k ∧ wr = w.alloc (.cells #[.int .i64 N, .slice (some ⟨gA, 0, none⟩) ks.length c, .slice B D.pend.length d, .int .i64 F, .bool dd] 46) ∧ ∀ (m : Nat) (y : Nat × List UInt8), k < (m : Int) → D.pend[m]? = some y → y.1 ≠ i) (fun v _ => (intOf v + 1).toNat)
  case atStart => exact ⟨_, by omega, by omega, rfl, rfl, fun m y hm hy => by have := (List.getElem?_eq_some_iff.1 hy).1; omega⟩
  case round =>
    obtain ⟨k, hk1, hk2, rfl, rfl, hno⟩ := hrel
    have HNO := Lib.hid hno
    clear hno
    by_cases hk : 0 ≤ k
    · obtain ⟨m, rfl⟩ : ∃ m : Nat, k = m := ⟨k.toNat, by omega⟩
      obtain ⟨x, hx⟩ : ∃ x, D.pend[m]? = some x := ⟨_, List.getElem?_eq_getElem (by omega)⟩
      obtain ⟨gB, eB, hc0, hc1⟩ := H.out.pend_at hx
      subst eB
      have HX := Lib.hid hx
      have hwm := wrap_of ((m : Int) - 1) (by omega) (by omega)
      clear hx hw0
      by_cases he : x.1 = i
      · have HE := Lib.hid he
        have ht : ((x.1 : Int) == (i : Int)) = true := by rw [he]; simp
        clear he
        go_wp2
        go_ret
        exact ⟨by rw [HH.out _ (overw_last (full s) HX.out HE.out (fun m' y hm hy => HNO.out m' y (by omega) hy))]; rfl, (Turn.refl _ _).alloc _⟩
      · have HE := Lib.hid he
        have ht : ((x.1 : Int) == (i : Int)) = false := by simpa using (by omega : ¬ (x.1 : Int) = (i : Int))
        have ht' : ¬ ((x.1 : Int) = (i : Int)) := by omega
        clear he
        go_wp2
        go_roundw
        case rel => exact ⟨(m : Int) - 1, by omega, by omega, by go_num, trivial, fun m' y hm hy => by
          by_cases e : m' = m
          · subst e
            rw [HX.out] at hy
            injection hy with hy
            subst hy
            exact HE.out
          · exact HNO.out m' y (by omega) hy⟩
        case measure => simp [intOf] <;> omega
    · obtain rfl : k = -1 := by omega
      have hA' := hA.out
      clear hw0
      go_wp2_with (go_at_call 35; refine (HF.out _).mono ?_; rintro e w' ⟨rfl, ht1⟩)
      go_ret
      exact ⟨by rw [HH.out _ (overw_no (full s) (fun m y hy => HNO.out m y (by omega) hy))]; rfl, ((Turn.refl _ _).alloc _).trans ht1⟩
set_option maxHeartbeats 1000000 in
theorem readRef_r {w : World} {D : Dsk} {ks : List (List UInt8)} {A B : Option Addr} {c d : Nat} (h : Rm w D ks A c B d) (i : Nat) (hi : i < D.kept.length) (hp : D.pend.length ≤ 1000000000) (F : Int) :
    Calls Try.prog 52 #[.agg #[.int .i64 D.kept.length, .slice A ks.length c, .slice B D.pend.length d, .int .i64 F, .bool false], .int .i64 i] w fun e w' => e = .returned (.tuple #[sv (D.has i), .int .i64 0]) ∧ Turn (fun _ => False) w w' := by
  have HH : Hid (∀ W, Turn (fun _ => False) w W → Calls Try.prog 65 #[.agg #[.int .i64 D.kept.length, .slice A ks.length c, .slice B D.pend.length d, .int .i64 F, .bool false], .int .i64 i] W fun e w' => e = .returned (sv (D.has i)) ∧ Turn (fun _ => False) W w') :=
    Lib.hid (fun W ht => has_r (h.still ht) i hi hp _ _ _)
  have T0 : Hid (Turn (fun _ => False) w (w.alloc (.cells #[.int .i64 D.kept.length, .slice A ks.length c, .slice B D.pend.length d, .int .i64 F, .bool false] 46))) := Lib.hid ((Turn.refl _ _).alloc _)
  have hi0 : (0 : Int) ≤ (i : Int) := Int.natCast_nonneg _
  have hi1 : (i : Int) < (D.kept.length : Int) := by omega
  clear h
  go_enter Try.func52, Try.ntmps52
  go_wp2_with (go_at_call 65; refine (HH.out _ T0.out).mono ?_; rintro e w' ⟨rfl, ht1⟩)
  go_ret2
  exact ⟨rfl, T0.out.trans ht1⟩
end Go.Proofs.Ytcjoinahelmmpaa
