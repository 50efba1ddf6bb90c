/- Layer 13: the document's Vacuum, Add, Same. -/
import Derived.Test.YtobddfpdijmgiaaVcD
namespace Go.Proofs.Ytobddfpdijmgiaa
open Go.RowKit
set_option linter.unusedVariables false
set_option linter.unusedSimpArgs false
set_option maxRecDepth 100000

def vacf : List Vn → Int → List Vn
  | [], _ => []
  | x :: l, m => if x.t ≤ m then (if x.d then [] else [x]) else x :: vacf l m
def vac13 (L : List Vn) (m : Int) : List Vn := if chn L then vacf L m else []
theorem vacf_at {m : Int} : ∀ {L : List Vn} {i : Nat} {x : Vn}, (∀ (j : Nat) (y : Vn), j < i → L[j]? = some y → ¬ y.t ≤ m) → L[i]? = some x → x.t ≤ m → vacf L m = L.take i ++ (if x.d then [] else [x])
  | [], i, x, _, h, _ => by simp at h
  | a :: L, 0, x, _, h, hp => by
    simp at h; subst h
    rw [vacf, if_pos hp]; simp
  | a :: L, i + 1, x, h0, h, hp => by
    rw [vacf, if_neg (h0 0 a (by omega) rfl), vacf_at (i := i) (fun j y hj hy => h0 (j + 1) y (by omega) (by simpa using hy)) (by simpa using h) hp]
    simp
theorem vacf_all {m : Int} : ∀ {L : List Vn}, (∀ (j : Nat) (y : Vn), L[j]? = some y → ¬ y.t ≤ m) → vacf L m = L
  | [], _ => rfl
  | a :: L, h => by rw [vacf, if_neg (h 0 a rfl), vacf_all (fun j y hy => h (j + 1) y (by simpa using hy))]
theorem take_next {α : Type} {L : List α} {i : Nat} {x : α} (h : L[i]? = some x) : L.take (i + 1) = L.take i ++ [x] := by rw [List.take_add_one, h]; rfl
set_option maxHeartbeats 4000000 in
theorem refVacuum13 (L : List Vn) (v : Value) (t : Int) (w : World) (h : Vr w v L) (hb : L.length ≤ 100000) :
    Calls Try.prog 110 #[v, .int .i64 t] w fun e w' => ∃ v', e = .returned v' ∧ Vo w.heap.size w' v' (vac13 L t) ∧ Turn (fun _ => False) w w' := by
  have HR := Lib.hid (refRight13s L v w h)
  obtain ⟨A, c, rfl, hl, hr⟩ := h
  obtain ⟨n, hn⟩ : ∃ n, L.length = n := ⟨_, rfl⟩
  have HN := Lib.hid hn
  have HRW := Lib.hid hr
  rw [hn] at hl HR HRW hb ⊢
  clear hn hr
  unfold vac13
  cases hch : chn L with
  | false =>
    rw [hch] at HR
    clear hch
    rw [if_neg (by decide)]
    go_enter Try.func110, Try.ntmps110
    go_wp2_with (go_at_call 56; refine HR.out.mono ?_; rintro e w' ⟨rfl, ht⟩)
    go_ret
    exact ⟨_, rfl, vo_nil _ _, ht⟩
  | true =>
    rw [hch] at HR
    clear hch
    rw [if_pos rfl]
    obtain ⟨R, hR⟩ : ∃ R, vacf L t = R := ⟨_, rfl⟩
    have HRR := Lib.hid hR
    rw [hR]
    clear hR
    go_enter Try.func110, Try.ntmps110
    go_wp2_with (go_at_call 56; refine HR.out.mono ?_; rintro e w1 ⟨rfl, ht⟩; have T1 := Lib.hid ht; clear ht)
    go_loopw [5, 6] (fun v5 v6 wr => ∃ i : Nat, i ≤ n ∧ v6 = .int .i64 i ∧ Vo w.heap.size wr v5 (L.take i) ∧ Hid (∀ (j : Nat) (y : Vn), j < i → L[j]? = some y → ¬ y.t ≤ t) ∧ Turn (fun _ => False) w wr) (fun _ v6 _ => n - (intOf v6).toNat)
    case atStart => exact ⟨0, Nat.zero_le _, rfl, vo_nil _ _, Lib.hid (fun j y hj => absurd hj (by omega)), T1.out⟩
    case round =>
      obtain ⟨i, hi, rfl, ho, HOK, ht⟩ := hrel
      obtain ⟨wx, rfl⟩ : ∃ W, W = wr := ⟨_, rfl⟩
      have hfi : (L.take i).length = i := by rw [List.length_take, HN.out]; omega
      obtain ⟨F, hF⟩ : ∃ F, L.take i = F := ⟨_, rfl⟩
      have HFE := Lib.hid hF
      rw [hF] at ho hfi
      obtain ⟨AF, cF, rfl⟩ := own_slice_ ho
      have HFL := Lib.hid hfi
      have TT := Lib.hid ht
      rw [hfi] at ho ⊢
      have HO := Lib.hid ho
      clear ho ht hF hfi
      by_cases hlt : i < n
      · have hl1 : (i : Int) < (n : Int) := by omega
        have hl0 : (0 : Int) ≤ (i : Int) := by omega
        have hq := wrap_of ((i : Int) + 1) (by omega) (by omega)
        obtain ⟨x, hx⟩ : ∃ x, L[i]? = some x := ⟨_, List.getElem?_eq_getElem (by rw [HN.out]; exact hlt)⟩
        have HX := Lib.hid hx
        obtain ⟨b, o, rfl, hb1, hc⟩ := HRW.out (by omega)
        obtain ⟨c0, c1, c2⟩ := hc i x hx
        have hk : ∀ j, wx.cell? ⟨b, j, none⟩ = w.cell? ⟨b, j, none⟩ := fun j => World.cell?_of_block (w := w) (a := ⟨b, j, none⟩) (TT.out.block b hb1 (fun h => h))
        rw [← hk] at c0 c1 c2
        clear hx hb1 hc hk
        by_cases hle : x.t ≤ t
        · have HV : Hid (R = L.take i ++ (if x.d then [] else [x])) := Lib.hid (by rw [← HRR.out]; exact vacf_at HOK.out HX.out hle)
          obtain ⟨xt, xs, xd⟩ := x
          simp only at c0 c1 c2 hle HV
          cases xd with
          | true =>
            have HV2 : Hid (R = F) := Lib.hid (by rw [HV.out, HFE.out]; simp)
            clear HV
            go_wp2_with fail
            go_ret
            exact ⟨_, rfl, by rw [HV2.out]; exact HO.out, TT.out⟩
          | false =>
            have HV2 : Hid (R = F ++ [⟨xt, xs, false⟩]) := Lib.hid (by rw [HV.out, HFE.out]; simp)
            clear HV
            go_wp2_with (at_builtin; refine wpList_app1v rfl _ _ rfl w.heap.size (.slice AF i cF) F i wx.heap.size ⟨xt, xs, false⟩ rfl HFL.out (HO.out.still ((Turn.refl _ _).alloc _)) rfl (Blk.new wx 103 [.int .i64 xt, .string xs, .bool false]) (by omega) (by have := TT.out.size; rw [World.size_alloc]; omega) ?_; intro A7 c7 w7 ho7 ht7; have O7 := Lib.hid ho7; have T7 := Lib.hid ((TT.out.alloc (.cells #[.int .i64 xt, .string xs, .bool false] 103)).trans_new ht7 (fun k hk h => by have := (own_ge9 HO.out k h).1; omega)); clear ho7 ht7)
            go_ret
            exact ⟨_, rfl, by rw [HV2.out]; exact O7.out, T7.out⟩
        · have HNX : Hid (L.take (i + 1) = F ++ [x]) := Lib.hid (by rw [take_next HX.out, HFE.out])
          have HN2 : Hid (∀ (j : Nat) (y : Vn), j < i + 1 → L[j]? = some y → ¬ y.t ≤ t) := Lib.hid (fun j y hj hy => by
            rcases Nat.lt_or_ge j i with h1 | h1
            · exact HOK.out j y h1 hy
            · have e : j = i := (by omega)
              subst e
              rw [HX.out] at hy
              cases hy
              exact hle)
          obtain ⟨xt, xs, xd⟩ := x
          simp only at c0 c1 c2 hle
          go_wp2_with (at_builtin; refine wpList_app1v rfl _ _ rfl w.heap.size (.slice AF i cF) F i wx.heap.size ⟨xt, xs, xd⟩ rfl HFL.out (HO.out.still ((Turn.refl _ _).alloc _)) rfl (Blk.new wx 103 [.int .i64 xt, .string xs, .bool xd]) (by omega) (by have := TT.out.size; rw [World.size_alloc]; omega) ?_; intro A7 c7 w7 ho7 ht7; have O7 := Lib.hid ho7; have T7 := Lib.hid ((TT.out.alloc (.cells #[.int .i64 xt, .string xs, .bool xd] 103)).trans_new ht7 (fun k hk h => by have := (own_ge9 HO.out k h).1; omega)); clear ho7 ht7)
          go_roundw
          case rel => exact ⟨i + 1, by omega, by simp [hq], by rw [HNX.out]; exact O7.out, HN2, T7.out⟩
          case measure => simp [intOf, hq]; omega
      · obtain rfl : i = n := by omega
        have HALL : Hid (R = F) := Lib.hid (by
          rw [← HRR.out, ← HFE.out, ← HN.out, List.take_length]
          exact vacf_all (fun j y hy => HOK.out j y (by
            rw [← HN.out]
            rcases Nat.lt_or_ge j L.length with h1 | h1
            · exact h1
            · rw [List.getElem?_eq_none h1] at hy; cases hy) hy))
        go_wp2_with fail
        go_ret
        exact ⟨_, rfl, by rw [HALL.out]; exact HO.out, TT.out⟩
end Go.Proofs.Ytobddfpdijmgiaa
