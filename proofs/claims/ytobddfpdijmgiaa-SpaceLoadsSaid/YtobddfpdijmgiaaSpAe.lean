/- Layer 14: the program's Apply. -/
import Derived.Test.YtobddfpdijmgiaaSpAc
import Derived.Test.YtobddfpdijmgiaaSpAd
namespace Go.Proofs.Ytobddfpdijmgiaa
open Go.RowKit Go.Shelf
set_option linter.unusedVariables false
set_option linter.unusedSimpArgs false
set_option maxRecDepth 100000

theorem fndI_len {I : List Itm} {N : Nat} (h : ∀ p ∈ I, p.vs.length ≤ N) (k : ByteArray) : (fndI I k).length ≤ N := by
  unfold fndI
  cases hf : I.find? (fun p => p.k.toList == k.toList) with
  | none => exact Nat.zero_le _
  | some p => exact h p (List.mem_of_find?_eq_some hf)
theorem insR_len (z : Itm) : ∀ L : List Itm, (insR z L).length ≤ L.length + 1
  | [] => by simp [insR]
  | x :: L => by
    have := insR_len z L
    rw [insR]
    split
    · simp only [List.length_cons]; omega
    · split <;> simp
theorem aplR_len {I0 : List Itm} {N : Nat} (t : Int) (hN : ∀ p ∈ I0, p.vs.length ≤ N) : ∀ (n : Nat) (C : List Cg), C.length = n → (aplR I0 t C).length ≤ I0.length + n ∧ ∀ p ∈ aplR I0 t C, p.vs.length ≤ N + 1
  | 0, C, hn => by
    obtain rfl := List.eq_nil_of_length_eq_zero hn
    exact ⟨Nat.le_refl _, fun p hp => by have := hN p hp; omega⟩
  | n + 1, C, hn => by
    obtain ⟨C', x, rfl⟩ : ∃ C' x, C = C' ++ [x] := by
      have hne : C ≠ [] := fun e => by rw [e] at hn; simp at hn
      exact ⟨C.dropLast, C.getLast hne, (List.dropLast_concat_getLast hne).symm⟩
    rw [List.length_append, List.length_singleton] at hn
    obtain ⟨g1, g2⟩ := aplR_len t hN n C' (by omega)
    rw [aplR_snoc]
    refine ⟨Nat.le_trans (insR_len _ _) (by omega), fun p hp => ?_⟩
    rcases mem_insR hp with rfl | hp
    · exact Nat.le_trans (add13_len _ _) (by have := fndI_len hN x.k; omega)
    · exact g2 p hp
theorem Sp.last {w : World} {q g : Nat} {vk : Value} {M : List (Itm × Value)} {last mark : Int} (h : Sp w q vk g M last mark) (t : Int) : Sp (w.setCell ⟨q, 2, none⟩ (.int .i64 t)) q vk g M t mark ∧ Turn (Sw q vk g) w (w.setCell ⟨q, 2, none⟩ (.int .i64 t)) := by
  have TS : Turn (fun k => k = q) w (w.setCell ⟨q, 2, none⟩ (.int .i64 t)) := (Turn.refl (fun k => k = q) w).setCell (p := ⟨q, 2, none⟩) (.inl rfl) _
  refine ⟨⟨h.box.put 2 _, h.keys.turn TS (fun k hk e => (h.sep.2 k hk).1 e), h.map.turn TS (fun e => h.sep.1 e.symm), fun p hp => ⟨⟨(h.vers p hp).1.1.turn TS (fun hh b hb e => (h.vers p hp).1.2 hh b hb (.inl e)), (h.vers p hp).1.2⟩, (h.vers p hp).2⟩, h.ord, h.sep⟩, TS.mono (fun k _ e => .inl e)⟩
set_option maxHeartbeats 4000000 in
theorem apply_14 {w : World} {q g : Nat} {vk : Value} {M : List (Itm × Value)} {last mark : Int} (L : List Cg) (vl : Value) (t : Int) (h : Sp w q vk g M last mark) (hc : Cx w vl L) (hap : 0 < L.length → ∀ b, vb vl = some b → ¬ Sw q vk g b) (hb : Bm 50000 M) (hL : L.length ≤ 1000) (hwf : Wf (M.map (fun p : Itm × Value => p.1)) last) (h0 : 0 ≤ last) (hlo : ¬ t ≤ last) (hhi : ¬ 1152921504606846976 < t) (hm : mch L = true) :
    Calls Try.prog 26 #[.pointer (some ⟨q, 0, none⟩), .int .i64 t, vl] w fun e w' => e = .returned (.int .i64 0) ∧ ∃ vk' M', Sp w' q vk' g M' t mark ∧ M'.map (fun p : Itm × Value => p.1) = aplR (M.map (fun p : Itm × Value => p.1)) t L ∧ (∀ k, Sw q vk' g k → Sw q vk g k ∨ w.heap.size ≤ k) ∧ Turn (Sw q vk g) w w' := by
  have HM := Lib.hid (made14 h)
  have HRT := Lib.hid (right_14 L vl w hc (by omega))
  rw [hm] at HRT
  obtain ⟨hok, hnod⟩ := (mch_iff L).1 hm
  have HOK := Lib.hid hok
  have HND := Lib.hid hnod
  have HSP := Lib.hid h
  have HWF := Lib.hid hwf
  have HLEN := Lib.hid (fun C => aplR_len (I0 := M.map (fun p : Itm × Value => p.1)) (N := 50000) t (fun p hp => by obtain ⟨r, hr, rfl⟩ := List.mem_map.1 hp; exact (hb.2 r hr).1) _ C rfl)
  have hM50 := hb.1
  obtain ⟨A, c, rfl, hll, hlr⟩ := hc
  obtain ⟨n, hn⟩ : ∃ n, L.length = n := ⟨_, rfl⟩
  have HN := Lib.hid hn
  have HR : Hid (∀ X, Turn (Sw q vk g) w X → Rc X A (L.flatMap cc)) := Lib.hid (fun X hX => hlr.turn hX (fun hp ad e hs => hap (by rw [flat_len cc_len] at hp; omega) ad.block (by rw [e]; rfl) hs))
  rw [hn] at hll hL HRT ⊢
  have c2 := h.box.cell 2
  simp only [List.getElem?_cons_succ, List.getElem?_cons_zero] at c2
  have C2 := Lib.hid c2
  have SP0 := Lib.hid h
  clear h hlr hn hap hwf hok hnod hm
  go_enter Try.func26, Try.ntmps26
  go_wp2_with (first | (go_at_call 66; refine HM.out.mono ?_; rintro e w' ⟨rfl, rfl⟩) | (go_at_call 67; refine HRT.out.mono ?_; rintro e w1 ⟨rfl, ht1⟩; have T1 := Lib.hid ht1; clear ht1))
  have hcl : Hid (∀ (k : Nat), Sw q vk g k → k < w'.heap.size) := Lib.hid HSP.out.below
  go_loopw [30] (fun v30 wr => ∃ (i : Nat) (vk' : Value) (M' : List (Itm × Value)), i ≤ n ∧ v30 = .int .i64 i ∧ Sp wr q vk' g M' last mark ∧ Hid (M'.map (fun p : Itm × Value => p.1) = aplR (M.map (fun p : Itm × Value => p.1)) t (L.take i)) ∧ Hid (∀ k, Sw q vk' g k → Sw q vk g k ∨ w'.heap.size ≤ k) ∧ Turn (Sw q vk g) w' wr) (fun v30 _ => n - (intOf v30).toNat)
  case atStart => exact ⟨0, vk, M, Nat.zero_le _, rfl, SP0.out.still T1.out, Lib.hid rfl, Lib.hid (fun k hk => .inl hk), T1.out.mono (fun k _ h => h.elim)⟩
  case round =>
    clear T1 SP0
    obtain ⟨i, vk', M', hi, rfl, hsp, HML, HFP, ht⟩ := hrel
    obtain ⟨wx, rfl⟩ : ∃ W, W = wr := ⟨_, rfl⟩
    by_cases hlt : i < n
    · have hl1 : (i : Int) < (n : Int) := by omega
      have hl0 : (0 : Int) ≤ (i : Int) := by omega
      have hq := wrap_of ((i : Int) + 1) (by omega) (by omega)
      obtain ⟨x, hx⟩ : ∃ x, L[i]? = some x := ⟨_, List.getElem?_eq_getElem (by rw [HN.out]; exact hlt)⟩
      have hok := HOK.out x (List.mem_of_getElem? hx)
      obtain ⟨b, o, rfl, hb1, hcc⟩ := (HR.out wx ht).chg (by rw [HN.out]; omega)
      obtain ⟨c0, c1, c2'⟩ := hcc wx (Turn.refl _ _) i x hx
      have hks : x.k.size ≤ 128 := by
        unfold ok1 at hok
        simp only [Bool.and_eq_true, decide_eq_true_eq] at hok
        exact hok.1
      obtain ⟨hl9, hv9⟩ := HLEN.out (L.take i)
      rw [← HML.out] at hl9 hv9
      rw [List.length_map, List.length_map, List.length_take] at hl9
      have hfnd : fndk M' x.k = fndI (M.map (fun p : Itm × Value => p.1)) x.k := by
        rw [fndk_map]
        refine (congrArg (fun I => fndI I x.k) HML.out).trans (fnd_aplR _ _ _ _ _ rfl ?_)
        have h1 : nod (L.take (i + 1)) := by
          have h2 := HND.out
          unfold nod at h2 ⊢
          rw [List.map_take]
          exact h2.sublist (List.take_sublist _ _)
        rw [take_next hx] at h1
        exact (nod_snoc.1 h1).2
      have hadd := add_ok HWF.out h0 (show last < t by omega) (by omega) hok
      have HAD := Lib.hid (fun W (hW : Turn (fun _ => False) wx W) => add_14 x.k ⟨t, x.v, x.d⟩ (hsp.still hW) (by omega) (fun p hp => by have := hv9 p.1 (List.mem_map.2 ⟨p, hp, rfl⟩); omega) hks (by rw [hfnd, hadd]; simp))
      rw [hfnd] at HAD
      have HNX : Hid (aplR (M.map (fun p : Itm × Value => p.1)) t (L.take (i + 1)) = insR ⟨x.k, (add13 (fndI (M.map (fun p : Itm × Value => p.1)) x.k) ⟨t, x.v, x.d⟩).1⟩ (M'.map (fun p : Itm × Value => p.1))) := Lib.hid (by rw [take_next hx, aplR_snoc, HML.out])
      obtain ⟨xk, xv, xd⟩ := x
      simp only at c0 c1 c2' HAD HNX
      generalize (add13 (fndI (M.map (fun p : Itm × Value => p.1)) xk) ⟨t, xv, xd⟩).1 = C at *
      obtain ⟨W2, hW2⟩ : ∃ W, wx.alloc (.cells #[.string xk, .string xv, .bool xd] 95) = W := ⟨_, rfl⟩
      have TT2 : Hid (Turn (fun _ => False) wx W2) := Lib.hid (hW2 ▸ (Turn.refl _ _).alloc _)
      have IB : Hid (Blk W2 wx.heap.size 95 [.string xk, .string xv, .bool xd]) := Lib.hid (hW2 ▸ Blk.new _ _ _)
      have e0 := IB.out.cell 0
      have e1 := IB.out.cell 1
      have e2 := IB.out.cell 2
      simp only [List.getElem?_cons_zero, List.getElem?_cons_succ] at e0 e1 e2
      have HT := Lib.hid ht
      clear hx hb1 hcc hsp ht hl9 hv9 hfnd hadd hok hks
      go_upto_region 10 with fail
      go_wp2_with (go_at_call 68; refine (HAD.out _ TT2.out).mono ?_; rintro e W9 ⟨rfl, vk9, u9, hs9, hf9, ht9⟩; have S9 := Lib.hid hs9; have F9 := Lib.hid hf9; have T9 := Lib.hid ht9; clear hs9 hf9 ht9)
      have hws := HT.out.size
      have hw2 := TT2.out.size
      go_roundw
      case rel => exact ⟨i + 1, vk9, _, by omega, by simp [hq], S9.out, Lib.hid (by rw [insI_map, HNX.out]), Lib.hid (fun k hk => by
          rcases F9.out k hk with h1 | h1
          · exact HFP.out k h1
          · exact .inr (by omega)), (HT.out.trans (TT2.out.mono (fun k _ h => h.elim))).trans_new T9.out (fun k hk h1 => by
          rcases HFP.out k h1 with h2 | h2
          · exact h2
          · omega)⟩
      case measure => simp [intOf, hq]; omega
    · obtain rfl : i = n := by omega
      have HALL : Hid (M'.map (fun p : Itm × Value => p.1) = aplR (M.map (fun p : Itm × Value => p.1)) t L) := Lib.hid (by rw [HML.out, ← HN.out, List.take_length])
      have HSL := Lib.hid (hsp.last t)
      have z2 := hsp.box.cell 2
      have f2 := hsp.box.free 2
      simp only [List.getElem?_cons_succ, List.getElem?_cons_zero] at z2
      have HT := Lib.hid ht
      clear hsp ht
      go_wp2_with fail
      go_ret
      exact ⟨rfl, vk', M', HSL.out.1, HALL.out, HFP.out, HT.out.trans_new HSL.out.2 (fun k hk h1 => by
        rcases HFP.out k h1 with h2 | h2
        · exact h2
        · omega)⟩
theorem apply_14b {w : World} {q g : Nat} {vk : Value} {M : List (Itm × Value)} {last mark : Int} (L : List Cg) (vl : Value) (t : Int) (h : Sp w q vk g M last mark) (hc : Cx w vl L) (hL : L.length ≤ 1000) (hbad : t ≤ last ∨ 1152921504606846976 < t ∨ mch L = false) :
    Calls Try.prog 26 #[.pointer (some ⟨q, 0, none⟩), .int .i64 t, vl] w fun e w' => e = .returned (.int .i64 (if t ≤ last ∨ 1152921504606846976 < t then 18 else 2)) ∧ Turn (fun _ => False) w w' := by
  have HM := Lib.hid (made14 h)
  have HRT := Lib.hid (right_14 L vl w hc (by omega))
  have c2 := h.box.cell 2
  simp only [List.getElem?_cons_succ, List.getElem?_cons_zero] at c2
  obtain ⟨A, c, rfl, hll, hlr⟩ := hc
  obtain ⟨n, hn⟩ : ∃ n, L.length = n := ⟨_, rfl⟩
  rw [hn] at HRT ⊢
  clear h hlr hn
  by_cases h1 : t ≤ last
  · rw [if_pos (.inl h1)]
    clear hbad
    go_enter Try.func26, Try.ntmps26
    go_wp2_with (go_at_call 66; refine HM.out.mono ?_; rintro e w' ⟨rfl, rfl⟩)
    go_ret
    exact ⟨rfl, Turn.refl _ _⟩
  · by_cases h2 : 1152921504606846976 < t
    · rw [if_pos (.inr h2)]
      clear hbad
      go_enter Try.func26, Try.ntmps26
      go_wp2_with (go_at_call 66; refine HM.out.mono ?_; rintro e w' ⟨rfl, rfl⟩)
      go_ret
      exact ⟨rfl, Turn.refl _ _⟩
    · rw [if_neg (by omega)]
      have hm : mch L = false := by
        rcases hbad with h | h | h
        · exact absurd h h1
        · exact absurd h h2
        · exact h
      rw [hm] at HRT
      clear hbad hm
      go_enter Try.func26, Try.ntmps26
      go_wp2_with (first | (go_at_call 66; refine HM.out.mono ?_; rintro e w' ⟨rfl, rfl⟩) | (go_at_call 67; refine HRT.out.mono ?_; rintro e w1 ⟨rfl, ht1⟩; have T1 := Lib.hid ht1; clear ht1))
      go_ret
      exact ⟨rfl, T1.out⟩
end Go.Proofs.Ytobddfpdijmgiaa
