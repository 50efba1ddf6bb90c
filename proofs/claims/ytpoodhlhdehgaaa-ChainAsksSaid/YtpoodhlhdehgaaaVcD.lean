/- Layer 13: the document's Rewind, Vacuum, Add. -/
import Derived.Test.YtpoodhlhdehgaaaVcC
import Derived.Test.YtpoodhlhdehgaaaAppG
namespace Go.Proofs.Ytpoodhlhdehgaaa
open Go.RowKit
set_option linter.unusedVariables false
set_option linter.unusedSimpArgs false
set_option maxRecDepth 100000

theorem vc_len (x : Vn) : (vc x).length = 3 := rfl
theorem vc_one (x : Vn) : ∀ u ∈ vc x, u.oneCell' = true := fun u hu => by
  simp [vc] at hu; rcases hu with rfl | rfl | rfl <;> rfl
theorem vcs_one (L : List Vn) : ∀ u ∈ L.flatMap vc, u.oneCell' = true := fun u hu => by
  obtain ⟨x, _, hx⟩ := List.mem_flatMap.1 hu; exact vc_one x u hx
theorem info_vn : (Try.prog.info? 31).map (fun i => (i.zero, i.size, i.bytes)) = some (some (.agg #[.int .i64 0, .string ByteArray.empty, .bool false]), 3, 32) := by kernel_rfl
/-- A row of versions of the call's own. -/
def Vo (B : Nat) (w : World) (v : Value) (L : List Vn) : Prop := w.ownsRow B 31 3 v L.length (L.flatMap vc)
theorem vr_of {w : World} {A : Option Addr} {c : Nat} {L : List Vn} (h : Rc w A (L.flatMap vc)) (hl : L.length ≤ 9223372036854775807) : Vr w (.slice A L.length c) L := by
  refine ⟨A, c, rfl, hl, fun hp => ?_⟩
  obtain ⟨b, o, e, hb, hc⟩ := h (by rw [flat_len vc_len]; omega)
  refine ⟨b, o, e, hb, fun j x hj => ⟨?_, ?_, ?_⟩⟩
  · exact hc (j * 3) _ ((flat_at vc_len L j 0 x hj (by decide)))
  · rw [Nat.add_assoc]; exact hc (j * 3 + 1) _ ((flat_at vc_len L j 1 x hj (by decide)))
  · rw [Nat.add_assoc]; exact hc (j * 3 + 2) _ ((flat_at vc_len L j 2 x hj (by decide)))
theorem Vo.vr {B : Nat} {w : World} {v : Value} {L : List Vn} (h : Vo B w v L) (hl : L.length ≤ 9223372036854775807) : Vr w v L := by
  obtain ⟨A, c, rfl⟩ := own_slice_ h
  exact vr_of (rc_own h) hl
theorem Vr.rc {w : World} {A : Option Addr} {n c : Nat} {L : List Vn} (h : Vr w (.slice A n c) L) : Rc w A (L.flatMap vc) := fun hp => by
  obtain ⟨A', c', e, hl, hr⟩ := h
  injection e with e1 e2 e3
  subst e1
  rw [flat_len vc_len] at hp
  obtain ⟨b, o, e4, hb, hc⟩ := hr (by omega)
  refine ⟨b, o, e4, hb, fun j u hu => ?_⟩
  have hj : j < L.length * 3 := by
    rw [← flat_len vc_len]
    rcases Nat.lt_or_ge j (L.flatMap vc).length with h1 | h1
    · exact h1
    · rw [List.getElem?_eq_none h1] at hu; cases hu
  obtain ⟨x, hx⟩ : ∃ x, L[j / 3]? = some x := ⟨_, List.getElem?_eq_getElem (by omega)⟩
  have h3 := flat_at vc_len L (j / 3) (j % 3) x hx (by omega)
  rw [show j / 3 * 3 + j % 3 = j by omega] at h3
  rw [h3] at hu
  obtain ⟨h0, h1, h2⟩ := hc (j / 3) x hx
  rcases (show j % 3 = 0 ∨ j % 3 = 1 ∨ j % 3 = 2 by omega) with hm | hm | hm
  · rw [hm] at hu; cases hu
    rw [show o + j = o + j / 3 * 3 by omega]; exact h0
  · rw [hm] at hu; cases hu
    rw [show o + j = o + j / 3 * 3 + 1 by omega]; exact h1
  · rw [hm] at hu; cases hu
    rw [show o + j = o + j / 3 * 3 + 2 by omega]; exact h2
theorem Vo.still {B : Nat} {w w' : World} {v : Value} {L : List Vn} (h : Vo B w v L) (ht : Turn (fun _ => False) w w') : Vo B w' v L := by
  obtain ⟨hl, ⟨e, h0⟩ | ⟨g, cap, cur, e, hB, hh, hn, hc, hs, htk⟩⟩ := h
  · exact ⟨hl, .inl ⟨e, h0⟩⟩
  · exact ⟨hl, .inr ⟨g, cap, cur, e, hB, (ht.block g (Array.getElem?_eq_some_iff.1 hh).1 (fun h => h)).trans hh, hn, hc, hs, htk⟩⟩
theorem own_ge9 {w : World} {base t s n : Nat} {v : Value} {xs : List Value} (h : w.ownsRow base t s v n xs) : ∀ k, v.ownBlock = some k → base ≤ k ∧ k < w.heap.size := fun k hk => by
  rcases h.2 with ⟨rfl, _⟩ | ⟨g, cap, cur, rfl, hB, hh, _⟩
  · simp [Value.ownBlock] at hk
  · have e : g = k := by unfold Value.ownBlock at hk; simp at hk; exact hk
    subst e
    exact ⟨hB, (Array.getElem?_eq_some_iff.1 hh).1⟩
theorem vo_nil (B : Nat) (w : World) : Vo B w (.slice none 0 0) [] := ⟨rfl, .inl ⟨rfl, rfl⟩⟩
theorem wpList_app1v {w : World} {ops : Array Oper} {rest : List Oper} {o : Oper} {a : Act} {Q : Exit → Act → World → Prop} (hgd : o.guard = none) (x y : Operand)
    (ho : o.op = .call { callee := .builtin .append, args := #[x, y], argTypes := #[22, 22] })
    (B : Nat) (v : Value) (L : List Vn) (n q : Nat) (z : Vn) (hx : a.eval x = v) (hn : L.length = n) (hown : Vo B w v L) (hy : a.eval y = .slice (some ⟨q, 0, none⟩) 1 1) (hq : Blk w q 31 (vc z)) (hb : n ≤ 1000000) (hB : B ≤ w.heap.size)
    (h : ∀ A' c' w', Vo B w' (.slice A' (n + 1) c') (L ++ [z]) → Turn (fun k => v.ownBlock = some k) w w' → wpList Try.prog ops Q rest (a.put o.dst (.slice A' (n + 1) c')) w') : wpList Try.prog ops Q (o :: rest) a w := by
  subst hn
  refine wpList_app_rc hgd x y 22 ho B 31 _ 3 32 Try.underlying22 info_vn rfl (by decide) v L.length (L.flatMap vc) hx hown (some ⟨q, 0, none⟩) 1 1 (vc z) hy rfl hq.rc (vc_one z) (by unfold maxLen; omega) (by omega) hB ?_
  intro A' c' w' h1 h2 _
  refine h A' c' w' ?_ h2
  unfold Vo
  rw [List.length_append, List.flatMap_append, List.length_singleton, List.flatMap_singleton]
  exact h1
theorem wpList_appVs {w : World} {ops : Array Oper} {rest : List Oper} {o : Oper} {a : Act} {Q : Exit → Act → World → Prop} (hgd : o.guard = none) (x y : Operand)
    (ho : o.op = .call { callee := .builtin .append, args := #[x, y], argTypes := #[22, 22] })
    (B : Nat) (v : Value) (L M : List Vn) (n m : Nat) (A : Option Addr) (c : Nat) (hx : a.eval x = v) (hn : L.length = n) (hm : M.length = m) (hown : Vo B w v L) (hy : a.eval y = .slice A m c) (hr : Rc w A (M.flatMap vc)) (hb : n + m ≤ 1000000) (hB : B ≤ w.heap.size)
    (h : ∀ A' c' w', Vo B w' (.slice A' (n + m) c') (L ++ M) → Turn (fun k => v.ownBlock = some k) w w' → wpList Try.prog ops Q rest (a.put o.dst (.slice A' (n + m) c')) w') : wpList Try.prog ops Q (o :: rest) a w := by
  subst hn hm
  refine wpList_app_rc hgd x y 22 ho B 31 _ 3 32 Try.underlying22 info_vn rfl (by decide) v L.length (L.flatMap vc) hx hown A M.length c (M.flatMap vc) hy (flat_len vc_len M) hr (vcs_one M) (by unfold maxLen; omega) (by omega) hB ?_
  intro A' c' w' h1 h2 _
  refine h A' c' w' ?_ h2
  unfold Vo
  rw [List.length_append, List.flatMap_append]
  exact h1
def rew13 (L : List Vn) (t : Int) : List Vn := if chn L then L.filter (fun x => decide (x.t ≤ t)) else []
theorem take_filter_next {L : List Vn} {i : Nat} {x : Vn} {p : Vn → Bool} (h : L[i]? = some x) : (L.take (i + 1)).filter p = (L.take i).filter p ++ (if p x then [x] else []) := by
  rw [List.take_add_one, h, List.filter_append]
  cases hp : p x <;> simp [hp]
set_option maxHeartbeats 4000000 in
theorem refRewind13 (L : List Vn) (v : Value) (t : Int) (w : World) (h : Vr w v L) (hb : L.length ≤ 100000) :
    Calls Try.prog 22 #[v, .int .i64 t] w fun e w' => ∃ v', e = .returned v' ∧ Vo w.heap.size w' v' (rew13 L t) ∧ Turn (fun _ => False) w w' := by
  have HR := Lib.hid (refRight13s L v w h)
  obtain ⟨A, c, rfl, hl, hr⟩ := h
  obtain ⟨n, hn⟩ : ∃ n, L.length = n := ⟨_, rfl⟩
  have HN := Lib.hid hn
  have HRW := Lib.hid hr
  rw [hn] at hl HR HRW hb ⊢
  clear hn hr
  unfold rew13
  cases hch : chn L with
  | false =>
    rw [hch] at HR
    clear hch
    rw [if_neg (by decide)]
    go_enter Try.func22, Try.ntmps22
    go_wp2_with (go_at_call 25; refine HR.out.mono ?_; rintro e w' ⟨rfl, ht⟩)
    go_ret
    exact ⟨_, rfl, vo_nil _ _, ht⟩
  | true =>
    rw [hch] at HR
    clear hch
    rw [if_pos rfl]
    go_enter Try.func22, Try.ntmps22
    go_wp2_with (go_at_call 25; refine HR.out.mono ?_; rintro e w1 ⟨rfl, ht⟩; have T1 := Lib.hid ht; clear ht)
    go_loopw [5, 6] (fun v5 v6 wr => ∃ i : Nat, i ≤ n ∧ v6 = .int .i64 i ∧ Vo w.heap.size wr v5 ((L.take i).filter (fun x => decide (x.t ≤ t))) ∧ Turn (fun _ => False) w wr) (fun _ v6 _ => n - (intOf v6).toNat)
    case atStart => exact ⟨0, Nat.zero_le _, rfl, vo_nil _ _, T1.out⟩
    case round =>
      obtain ⟨i, hi, rfl, ho, ht⟩ := hrel
      obtain ⟨wx, rfl⟩ : ∃ W, W = wr := ⟨_, rfl⟩
      obtain ⟨F, hF⟩ : ∃ F, (L.take i).filter (fun x => decide (x.t ≤ t)) = F := ⟨_, rfl⟩
      have HFE := Lib.hid hF
      rw [hF] at ho
      obtain ⟨AF, cF, rfl⟩ := own_slice_ ho
      obtain ⟨f, hf⟩ : ∃ f, F.length = f := ⟨_, rfl⟩
      have HFL := Lib.hid hf
      have hfb : f ≤ 100000 := by rw [← hf, ← hF]; exact Nat.le_trans (List.length_filter_le _ _) (by rw [List.length_take]; omega)
      have HO := Lib.hid ho
      have TT := Lib.hid ht
      rw [hf] at HO ⊢
      clear ho ht hF hf
      by_cases hlt : i < n
      · have hl1 : (i : Int) < (n : Int) := by omega
        have hl0 : (0 : Int) ≤ (i : Int) := by omega
        have hq := wrap_of ((i : Int) + 1) (by omega) (by omega)
        obtain ⟨x, hx⟩ : ∃ x, L[i]? = some x := ⟨_, List.getElem?_eq_getElem (by rw [HN.out]; exact hlt)⟩
        have HX := Lib.hid hx
        obtain ⟨b, o, rfl, hb1, hc⟩ := HRW.out (by omega)
        obtain ⟨c0, c1, c2⟩ := hc i x hx
        have hk : ∀ j, wx.cell? ⟨b, j, none⟩ = w.cell? ⟨b, j, none⟩ := fun j => World.cell?_of_block (w := w) (a := ⟨b, j, none⟩) (TT.out.block b hb1 (fun h => h))
        rw [← hk] at c0 c1 c2
        clear hx hb1 hc hk
        by_cases hle : x.t ≤ t
        · have HNX : Hid ((L.take (i + 1)).filter (fun x => decide (x.t ≤ t)) = F ++ [x]) := Lib.hid (by rw [take_filter_next HX.out, HFE.out, if_pos (by simpa using hle)])
          obtain ⟨xt, xs, xd⟩ := x
          simp only at c0 c1 c2 hle
          go_wp2_with (at_builtin; refine wpList_app1v rfl _ _ rfl w.heap.size (.slice AF f cF) F f wx.heap.size ⟨xt, xs, xd⟩ rfl HFL.out (HO.out.still ((Turn.refl _ _).alloc _)) rfl (Blk.new wx 31 [.int .i64 xt, .string xs, .bool xd]) (by omega) (by have := TT.out.size; rw [World.size_alloc]; omega) ?_; intro A7 c7 w7 ho7 ht7; have O7 := Lib.hid ho7; have T7 := Lib.hid ((TT.out.alloc (.cells #[.int .i64 xt, .string xs, .bool xd] 31)).trans_new ht7 (fun k hk h => by have := (own_ge9 HO.out k h).1; omega)); clear ho7 ht7)
          go_roundw
          case rel => exact ⟨i + 1, by omega, by simp [hq], by rw [HNX.out]; exact O7.out, T7.out⟩
          case measure => simp [intOf, hq]; omega
        · have HNX : Hid ((L.take (i + 1)).filter (fun x => decide (x.t ≤ t)) = F) := Lib.hid (by rw [take_filter_next HX.out, HFE.out, if_neg (by simpa using hle), List.append_nil])
          go_wp2_with fail
          go_roundw
          case rel => exact ⟨i + 1, by omega, by simp [hq], by rw [HNX.out]; exact HO.out, TT.out⟩
          case measure => simp [intOf, hq]; omega
      · obtain rfl : i = n := by omega
        have HALL : Hid (F = L.filter (fun x => decide (x.t ≤ t))) := Lib.hid (by rw [← HFE.out, ← HN.out, List.take_length])
        go_wp2_with fail
        go_ret
        exact ⟨_, rfl, by rw [← HALL.out]; exact HO.out, TT.out⟩
end Go.Proofs.Ytpoodhlhdehgaaa
