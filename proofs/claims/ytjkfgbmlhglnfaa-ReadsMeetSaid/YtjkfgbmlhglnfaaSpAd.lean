/- Layer 14: Load where it refuses; the program's right. -/
import Derived.Test.YtjkfgbmlhglnfaaSpZ
import Derived.Test.YtjkfgbmlhglnfaaVcP
namespace Go.Proofs.Ytjkfgbmlhglnfaa
open Go.RowKit Go.Shelf
set_option linter.unusedVariables false
set_option linter.unusedSimpArgs false
set_option maxRecDepth 100000

theorem load_14b (v : Value) (last mark : Int) (w : World) (hm : mark < 0 ∨ last < mark ∨ 1152921504606846976 < last) :
    Calls Try.prog 32 #[v, .int .i64 last, .int .i64 mark] w fun e w' => e = .returned (.tuple #[.pointer none, .int .i64 4]) ∧ Turn (fun _ => False) w w' := by
  have key : mark < 0 ∨ (¬ mark < 0 ∧ last < mark) ∨ (¬ mark < 0 ∧ ¬ last < mark ∧ 1152921504606846976 < last) := by omega
  clear hm
  rcases key with h1 | ⟨h0, h1⟩ | ⟨h00, h0, h1⟩
  all_goals
    go_enter Try.func32, Try.ntmps32
    go_wp2
    go_ret2
    exact ⟨rfl, Turn.refl _ _⟩
def nod (L : List Cg) : Prop := (L.map (fun x => x.k.toList)).Nodup
theorem mch_iff (L : List Cg) : mch L = true ↔ (∀ x ∈ L, ok1 x = true) ∧ nod L := by
  constructor
  · intro h
    unfold mch at h
    rw [List.all_eq_true] at h
    have h1 : ∀ i x, L[i]? = some x → ok1 x = true ∧ ∀ y ∈ L.take i, (y.k.toList == x.k.toList) = false := fun i x hx => by
      have hl : i < L.length := by
        rcases Nat.lt_or_ge i L.length with h1 | h1
        · exact h1
        · rw [List.getElem?_eq_none h1] at hx; cases hx
      have h2 := h i (List.mem_range.2 hl)
      rw [okc_at hx, Bool.and_eq_true, List.all_eq_true] at h2
      exact ⟨h2.1, fun y hy => by simpa using h2.2 y hy⟩
    refine ⟨fun x hx => ?_, ?_⟩
    · obtain ⟨j, hj⟩ := List.getElem?_of_mem hx
      exact (h1 j x hj).1
    · unfold nod
      rw [List.nodup_iff_pairwise_ne, List.pairwise_map, List.pairwise_iff_getElem]
      intro i j hi hj hij e
      have h3 := (h1 j _ (List.getElem?_eq_getElem hj)).2 L[i] (by
        have : (L.take j)[i]? = some L[i] := by rw [List.getElem?_take_of_lt hij]; exact List.getElem?_eq_getElem hi
        exact List.mem_of_getElem? this)
      rw [e] at h3
      simp at h3
  · rintro ⟨h1, h2⟩
    refine mch_true (fun j hj => ?_)
    rw [okc_at (List.getElem?_eq_getElem hj), Bool.and_eq_true, List.all_eq_true]
    refine ⟨h1 _ (List.getElem_mem hj), fun y hy => ?_⟩
    obtain ⟨i, hi⟩ := List.getElem?_of_mem hy
    have hij : i < j := by
      rcases Nat.lt_or_ge i j with h | h
      · exact h
      · rw [List.getElem?_take_eq_none h] at hi; cases hi
    rw [List.getElem?_take_of_lt hij] at hi
    unfold nod at h2
    rw [List.nodup_iff_pairwise_ne, List.pairwise_map, List.pairwise_iff_getElem] at h2
    have h3 := h2 i j (by omega) hj hij
    rw [List.getElem?_eq_getElem (by omega)] at hi
    injection hi with hi
    rw [hi] at h3
    simpa using h3
theorem nod_snoc {L : List Cg} {x : Cg} : nod (L ++ [x]) ↔ nod L ∧ L.any (fun y => y.k.toList == x.k.toList) = false := by
  unfold nod
  rw [List.map_append, List.map_cons, List.map_nil, List.nodup_append, List.any_eq_false]
  constructor
  · rintro ⟨h1, _, h2⟩
    exact ⟨h1, fun y hy e => h2 _ (List.mem_map.2 ⟨y, hy, rfl⟩) x.k.toList (by simp) (by simpa using e)⟩
  · rintro ⟨h1, h2⟩
    refine ⟨h1, by simp, fun a ha b hb e => ?_⟩
    obtain ⟨y, hy, rfl⟩ := List.mem_map.1 ha
    simp at hb
    subst hb
    exact h2 y hy (by simpa using e)
set_option maxHeartbeats 4000000 in
theorem right_14 (L : List Cg) (v : Value) (w : World) (h : Cx w v L) (hb : L.length ≤ 10000000) :
    Calls Try.prog 81 #[v] w fun e w' => e = .returned (.bool (mch L)) ∧ Turn (fun _ => False) w w' := by
  obtain ⟨A, c, rfl, hl, hr⟩ := h
  obtain ⟨n, hn⟩ : ∃ n, L.length = n := ⟨_, rfl⟩
  have HN := Lib.hid hn
  have HR := Lib.hid hr
  rw [hn] at hl hb ⊢
  obtain ⟨R, hR⟩ : ∃ R, mch L = R := ⟨_, rfl⟩
  have HRR := Lib.hid hR
  rw [hR]
  have M0 : Hid (Mp (w.alloc (.map #[] 0)) w.heap.size 0 (fun _ => none)) := Lib.hid (Mp.made w)
  have T0 : Hid (Turn (fun _ => False) w (w.alloc (.map #[] 0))) := Lib.hid ((Turn.refl _ _).alloc _)
  have hmm := @run_makeMap Try.prog
  clear hn hr hR
  go_enter Try.func81, Try.ntmps81
  go_wp2_with fail
  clear hmm
  go_loopw [9] (fun v9 wr => ∃ (i cnt : Nat) (F : List UInt8 → Option Value), i ≤ n ∧ v9 = .int .i64 i ∧ Mp wr w.heap.size cnt F ∧ Hid (∀ x ∈ L.take i, ok1 x = true) ∧ Hid (∀ k, (F k).isSome = (L.take i).any (fun y => y.k.toList == k)) ∧ Hid (cnt ≤ i ∧ (cnt = i ↔ nod (L.take i))) ∧ Turn (fun _ => False) w wr) (fun v9 _ => n - (intOf v9).toNat)
  case atStart => exact ⟨0, 0, _, Nat.zero_le _, rfl, M0.out, Lib.hid (fun x hx => by simp at hx), Lib.hid (fun k => rfl), Lib.hid ⟨Nat.le_refl _, by simp [nod]⟩, T0.out⟩
  case round =>
    clear M0 T0
    obtain ⟨i, cnt, F, hi, rfl, hmp, HOK, HF, HC2, ht⟩ := hrel
    obtain ⟨wx, rfl⟩ : ∃ W, W = wr := ⟨_, rfl⟩
    have TT := Lib.hid ht
    by_cases hlt : i < n
    · have hl1 : (i : Int) < (n : Int) := by omega
      have hl0 : (0 : Int) ≤ (i : Int) := by omega
      have hq := wrap_of ((i : Int) + 1) (by omega) (by omega)
      obtain ⟨x, hx⟩ : ∃ x, L[i]? = some x := ⟨_, List.getElem?_eq_getElem (by rw [HN.out]; exact hlt)⟩
      have HX := Lib.hid hx
      obtain ⟨b, o, rfl, hb1, hc⟩ := HR.out.chg (by rw [HN.out]; omega)
      obtain ⟨c0, c1, c2⟩ := hc wx ht i x hx
      have hbad : Hid (ok1 x = false → R = false) := Lib.hid (fun h => by
        rw [← HRR.out]
        cases hm : mch L with
        | false => rfl
        | true => have := ((mch_iff L).1 hm).1 x (List.mem_of_getElem? HX.out); rw [h] at this; cases this)
      have HOK2 : Hid (ok1 x = true → ∀ y ∈ L.take (i + 1), ok1 y = true) := Lib.hid (fun h y hy => by
        rw [take_next HX.out] at hy
        rcases List.mem_append.1 hy with hy | hy
        · exact HOK.out y hy
        · simp at hy; subst hy; exact h)
      have hky := key_ok1 x
      have HNX : Hid (∀ u, (∀ k, (upd F x.k.toList (some u) k).isSome = (L.take (i + 1)).any (fun y => y.k.toList == k)) ∧ (if (F x.k.toList).isSome then cnt else cnt + 1) ≤ i + 1 ∧ ((if (F x.k.toList).isSome then cnt else cnt + 1) = i + 1 ↔ nod (L.take (i + 1)))) := Lib.hid (fun u => by
        rw [take_next HX.out]
        refine ⟨fun k => ?_, ?_⟩
        · rw [List.any_append]
          by_cases hk : k = x.k.toList
          · subst hk
            rw [upd_at]
            simp
          · rw [upd_ne _ _ hk, HF.out k]
            have : (x.k.toList == k) = false := by rw [beq_eq_false_iff_ne]; exact fun e => hk e.symm
            simp [this]
        · obtain ⟨g1, g2⟩ := HC2.out
          rw [nod_snoc, HF.out]
          cases hany : (L.take i).any (fun y => y.k.toList == x.k.toList) with
          | true =>
            simp only [if_true]
            refine ⟨by omega, fun h => by omega, fun h => by cases h.2⟩
          | false =>
            simp only [Bool.false_eq_true, if_false]
            refine ⟨by omega, fun h => ⟨g2.1 (by omega), trivial⟩, fun h => by have := g2.2 h.1; omega⟩)
      obtain ⟨xk, xv, xd⟩ := x
      simp only at hky c0 c1 c2 HNX
      obtain ⟨W2, hW2⟩ : ∃ W, wx.alloc (.cells #[.string xk, .string xv, .bool xd] 79) = W := ⟨_, rfl⟩
      have TT2 : Hid (Turn (fun _ => False) w W2) := Lib.hid (hW2 ▸ ht.alloc _)
      have IB : Hid (Blk W2 wx.heap.size 79 [.string xk, .string xv, .bool xd]) := Lib.hid (hW2 ▸ Blk.new _ _ _)
      have M2 : Hid (Mp W2 w.heap.size cnt F) := Lib.hid (hW2 ▸ hmp.still ((Turn.refl _ _).alloc _))
      have e0 := IB.out.cell 0
      have e1 := IB.out.cell 1
      have e2 := IB.out.cell 2
      simp only [List.getElem?_cons_zero, List.getElem?_cons_succ] at e0 e1 e2
      have hcn : cnt ≤ 10000000 := by have := HC2.out.1; omega
      clear hx hb1 hc hmp ht
      obtain ⟨r, hr1⟩ : ∃ r, ok1 ⟨xk, xv, xd⟩ = r := ⟨_, rfl⟩
      rw [hr1] at hky hbad HOK2
      clear hr1
      go_upto_region 5 with fail
      rcases hky with ⟨h1, rfl⟩ | ⟨h1, h2, rfl⟩ | ⟨h1, h2, rfl, rfl⟩ | ⟨h1, h2, rfl, h4, rfl⟩ | ⟨h1, h2, rfl, h4, rfl⟩
      case inl =>
        have HB := Lib.hid (hbad.out rfl)
        go_wp2_with fail
        go_ret
        exact ⟨by rw [HB.out]; rfl, TT2.out⟩
      case inr.inl =>
        have HB := Lib.hid (hbad.out rfl)
        go_wp2_with fail
        go_ret
        exact ⟨by rw [HB.out]; rfl, TT2.out⟩
      case inr.inr.inr.inr =>
        have HB := Lib.hid (hbad.out rfl)
        have h5 : (xv.toList == []) = false := by cases hh : xv.toList <;> simp_all
        go_wp2_with fail
        go_ret
        exact ⟨by rw [HB.out]; rfl, TT2.out⟩
      case inr.inr.inl =>
        have HO2 := Lib.hid (HOK2.out rfl)
        clear hbad HOK2
        go_wp2_with (at_mapUpdate; refine wpList_update_mp rfl 163 164 Try.underlying163 _ _ _ rfl w.heap.size cnt F xk (.agg #[]) (by unfold maxLen; omega) rfl M2.out (by unfold maxLen; omega) rfl rfl ?_; intro w9 hm9 ht9; have M9 := Lib.hid hm9; have T9 := Lib.hid ht9; clear hm9 ht9)
        go_roundw
        case rel => exact ⟨i + 1, _, _, by omega, by simp [hq], M9.out, HO2, Lib.hid (HNX.out _).1, Lib.hid (HNX.out (.agg #[])).2, TT2.out.trans_new T9.out (fun k hk e => by omega)⟩
        case measure => simp [intOf, hq]; omega
      case inr.inr.inr.inl =>
        have HO2 := Lib.hid (HOK2.out rfl)
        have h5 : (xv.toList == []) = true := by cases hh : xv.toList <;> simp_all
        clear hbad HOK2
        go_wp2_with (at_mapUpdate; refine wpList_update_mp rfl 163 164 Try.underlying163 _ _ _ rfl w.heap.size cnt F xk (.agg #[]) (by unfold maxLen; omega) rfl M2.out (by unfold maxLen; omega) rfl rfl ?_; intro w9 hm9 ht9; have M9 := Lib.hid hm9; have T9 := Lib.hid ht9; clear hm9 ht9)
        go_roundw
        case rel => exact ⟨i + 1, _, _, by omega, by simp [hq], M9.out, HO2, Lib.hid (HNX.out _).1, Lib.hid (HNX.out (.agg #[])).2, TT2.out.trans_new T9.out (fun k hk e => by omega)⟩
        case measure => simp [intOf, hq]; omega
    · obtain rfl : i = n := by omega
      have MP := Lib.hid hmp
      have HALL : Hid (R = decide (cnt = i)) := Lib.hid (by
        have e1 : L.take i = L := by rw [← HN.out, List.take_length]
        have g1 := HOK.out
        have g2 := HC2.out.2
        rw [e1] at g1 g2
        rw [← HRR.out]
        cases hm : mch L with
        | true => exact (decide_eq_true (g2.2 ((mch_iff L).1 hm).2)).symm
        | false =>
          refine (decide_eq_false (fun e => ?_)).symm
          have := (mch_iff L).2 ⟨g1, g2.1 e⟩
          rw [hm] at this
          cases this)
      clear hmp ht
      go_wp2_with (at_len; refine wpList_len_mp rfl 163 164 Try.underlying163 _ rfl w.heap.size cnt F rfl MP.out ?_)
      go_ret
      exact ⟨by rw [HALL.out, show decide (cnt = i) = ((cnt : Int) == (i : Int)) from by rw [Bool.eq_iff_iff, beq_iff_eq, decide_eq_true_iff]; omega]; rfl, TT.out⟩
end Go.Proofs.Ytjkfgbmlhglnfaa
/- Layer 14: the program's add. (mkSpAb.py) -/
namespace Go.Proofs.Ytjkfgbmlhglnfaa
open Go.RowKit Go.Shelf
set_option linter.unusedVariables false
set_option linter.unusedSimpArgs false
set_option maxRecDepth 100000

theorem step_lookup_mp {w : World} {ops : Array Oper} {o : Oper} {a : Act} {K : Act → World → Prop} {Q : Exit → Act → World → Prop} {E : Prop} (hg : o.guard = none) (m x : Operand) (hop : o.op = Op.lookup 124 m x false)
    (g n : Nat) (F : List UInt8 → Option Value) (s : ByteArray) (hs : s.size ≤ maxLen) (hm : a.eval m = .map (some g)) (h : Mp w g n F) (hx : a.eval x = .string s)
    (hK : K (a.put o.dst ((F s.toList).getD (.slice none 0 0))) w) : if Region.wanted o (yielded ops a.tmps) = true then Oper.wp Try.prog o a w K Q else E := by
  have hw : Region.wanted o (yielded ops a.tmps) = true := by simp [Region.wanted, hg]
  rw [if_pos hw]
  have hr := h.lookup Try.underlying124 (zero_vers w) s hs
  unfold Oper.wp
  simp only [execOp, hop, hm, hx, Sem.run_bind, hr, Result.andThen_ok]
  exact hK
theorem sp_put {W W9 : World} {q g : Nat} {vk vk' u : Value} {M : List (Itm × Value)} {last mark : Int} {z : Itm} (h : Sp W q vk g M last mark) (M2 : List (Itm × Value)) (hr2 : risK (keysM M2)) (h1 : (z, u) ∈ M2) (h2 : ∀ p ∈ M2, p = (z, u) ∨ p ∈ M) (h3 : ∀ p ∈ M, p.1.k.toList = z.k.toList ∨ p ∈ M2)
    (hlen : M2.length = if (look M z.k.toList).isSome then M.length else M.length + 1) (hbox : Blk W9 q 126 [vk', .map (some g), .int .i64 last, .int .i64 mark]) (hkeys : Kr W9 vk' (keysM M2))
    (hmap : Mp W9 g (if (look M z.k.toList).isSome then M.length else M.length + 1) (upd (look M) z.k.toList (some u))) (hv : VrF (Sw q vk' g) W9 u z.vs) (hcv : Cv u) (hne : z.vs ≠ [])
    (ht : Turn (Sw q vk g) W W9) (hvk : ∀ b, vk'.ownBlock = some b → vk.ownBlock = some b ∨ W.heap.size ≤ b) : Sp W9 q vk' g M2 last mark := by
  refine ⟨hbox, hkeys, ?_, fun p hp => ?_, hr2, h.sep.1, fun b hb => ?_⟩
  · rw [look_upd (z := z) (u := u) h.ord hr2 h1 h2 h3, hlen]
    exact hmap
  · rcases h2 p hp with rfl | hp
    · exact ⟨hv, hcv, hne⟩
    · obtain ⟨k1, k2, k3⟩ := h.vers p hp
      refine ⟨⟨k1.1.turn ht (fun hh b hb e => k1.2 hh b hb e), fun hh b hb e => ?_⟩, k2, k3⟩
      rcases e with e | e | e
      · exact k1.2 hh b hb (.inl e)
      · exact k1.2 hh b hb (.inr (.inl e))
      · rcases hvk b e with h9 | h9
        · exact k1.2 hh b hb (.inr (.inr h9))
        · obtain ⟨b', e1, hlt⟩ := k1.1.at_ hh
          rw [hb] at e1
          cases e1
          omega
  · rcases hvk b hb with h9 | h9
    · exact h.sep.2 b h9
    · exact ⟨fun e => by have := h.box.lt; omega, fun e => by have := h.map.lt; omega⟩
/-- A key's item laid among others, by rising keys. -/
def insI {α : Type} (M : List (Itm × α)) (z : Itm × α) : List (Itm × α) :=
  if hasK (M.map (fun p => p.1.k)) z.1.k then M.take (plK (M.map (fun p => p.1.k)) z.1.k) ++ z :: M.drop (plK (M.map (fun p => p.1.k)) z.1.k + 1)
  else M.take (plK (M.map (fun p => p.1.k)) z.1.k) ++ z :: M.drop (plK (M.map (fun p => p.1.k)) z.1.k)
theorem ris_insK {K : List ByteArray} (hr : risK K) (key : ByteArray) (hn : hasK K key = false) : risK (insK K (plK K key) key) := by
  unfold risK insK
  have hn2 : ¬ K[plK K key]? = some key := by unfold hasK at hn; simpa using hn
  rw [List.pairwise_append, List.pairwise_cons]
  have hab : ∀ (j : Nat) (k : ByteArray), K[j]? = some k → plK K key ≤ j → lt14 key k = true := fun j k hj hge => by
    have h1 := plK_above hr hj hge
    cases h2 : lt14 key k with
    | true => rfl
    | false =>
      have := lt14_eq h1 h2
      subst this
      rcases Nat.lt_or_ge (plK K k) j with h3 | h3
      · obtain ⟨x, hx⟩ : ∃ x, K[plK K k]? = some x := by
          have hl : j < K.length := by
            rcases Nat.lt_or_ge j K.length with h | h
            · exact h
            · rw [List.getElem?_eq_none h] at hj; cases hj
          exact ⟨_, List.getElem?_eq_getElem (by omega)⟩
        have hl : j < K.length := by
          rcases Nat.lt_or_ge j K.length with h | h
          · exact h
          · rw [List.getElem?_eq_none h] at hj; cases hj
        have h5 := List.pairwise_iff_getElem.1 hr (plK K k) j (by omega) hl h3
        rw [List.getElem?_eq_getElem (by omega)] at hx
        rw [List.getElem?_eq_getElem hl] at hj
        injection hx with hx
        injection hj with hj
        rw [hj, hx] at h5
        have h6 := plK_above hr (j := plK K k) (k := x) (by rw [List.getElem?_eq_getElem (by omega)]; exact congrArg some hx) (Nat.le_refl _)
        rw [h5] at h6
        cases h6
      · have e : j = plK K k := by omega
        subst e
        exact absurd hj hn2
  refine ⟨hr.sublist (List.take_sublist _ _), ⟨fun a ha => ?_, hr.sublist (List.drop_sublist _ _)⟩, fun a ha b hb => ?_⟩
  · obtain ⟨j, hj⟩ := List.getElem?_of_mem ha
    rw [List.getElem?_drop] at hj
    exact hab _ a hj (by omega)
  · have hak : lt14 a key = true := by
      obtain ⟨j, hj⟩ := List.getElem?_of_mem ha
      have hl : j < plK K key := by
        rcases Nat.lt_or_ge j (plK K key) with h | h
        · exact h
        · rw [List.getElem?_take_eq_none h] at hj; cases hj
      rw [List.getElem?_take_of_lt hl] at hj
      exact plK_below hj hl
    rcases List.mem_cons.1 hb with rfl | hb
    · exact hak
    · obtain ⟨j, hj⟩ := List.getElem?_of_mem hb
      rw [List.getElem?_drop] at hj
      exact lt14_trans hak (hab _ b hj (by omega))
theorem keys_insI (M : List (Itm × Value)) (z : Itm × Value) : keysM (insI M z) = if hasK (keysM M) z.1.k then keysM M else insK (keysM M) (plK (keysM M) z.1.k) z.1.k := by
  unfold insI
  change (if hasK (keysM M) z.1.k = true then _ else _ : List (Itm × Value)).map (fun p => p.1.k) = _
  have hpe : plK (M.map (fun p => p.1.k)) z.1.k = plK (keysM M) z.1.k := rfl
  rw [hpe]
  cases hh : hasK (keysM M) z.1.k with
  | false =>
    simp only [Bool.false_eq_true, if_false]
    simp [insK, keysM, List.map_take, List.map_drop]
  | true =>
    simp only [if_true]
    have h1 : (keysM M)[plK (keysM M) z.1.k]? = some z.1.k := by unfold hasK at hh; simpa using hh
    have hl : plK (keysM M) z.1.k < (keysM M).length := by
      rcases Nat.lt_or_ge (plK (keysM M) z.1.k) (keysM M).length with h | h
      · exact h
      · rw [List.getElem?_eq_none h] at h1; cases h1
    generalize plK (keysM M) z.1.k = pl at *
    rw [List.map_append, List.map_cons, List.map_take, List.map_drop]
    change (keysM M).take pl ++ z.1.k :: (keysM M).drop (pl + 1) = keysM M
    rw [List.getElem?_eq_getElem hl] at h1
    injection h1 with h1
    rw [← h1]
    conv => rhs; rw [← List.take_append_drop pl (keysM M)]
    rw [List.drop_eq_getElem_cons hl]
theorem ris_insI {M : List (Itm × Value)} (hr : risK (keysM M)) (z : Itm × Value) : risK (keysM (insI M z)) := by
  rw [keys_insI]
  cases hh : hasK (keysM M) z.1.k with
  | true => exact hr
  | false => exact ris_insK hr _ hh
theorem mem_insI {M : List (Itm × Value)} {z p : Itm × Value} (h : p ∈ insI M z) : p = z ∨ p ∈ M := by
  unfold insI at h
  split at h
  · rcases List.mem_append.1 h with h | h
    · exact .inr (List.mem_of_mem_take h)
    · rcases List.mem_cons.1 h with h | h
      · exact .inl h
      · exact .inr (List.mem_of_mem_drop h)
  · rcases List.mem_append.1 h with h | h
    · exact .inr (List.mem_of_mem_take h)
    · rcases List.mem_cons.1 h with h | h
      · exact .inl h
      · exact .inr (List.mem_of_mem_drop h)
theorem self_insI (M : List (Itm × Value)) (z : Itm × Value) : z ∈ insI M z := by
  unfold insI
  split <;> simp
theorem rest_insI {M : List (Itm × Value)} (z : Itm × Value) : ∀ p ∈ M, p.1.k.toList = z.1.k.toList ∨ p ∈ insI M z := fun p hp => by
  unfold insI
  have hsp := hp
  rw [← List.take_append_drop (plK (M.map (fun p => p.1.k)) z.1.k) M] at hsp
  split
  · rename_i hh
    rcases List.mem_append.1 hsp with h | h
    · exact .inr (List.mem_append_left _ h)
    · obtain ⟨j, hj⟩ := List.getElem?_of_mem h
      rw [List.getElem?_drop] at hj
      cases j with
      | zero =>
        left
        have h1 : (M.map (fun p => p.1.k))[plK (M.map (fun p => p.1.k)) z.1.k]? = some z.1.k := by unfold hasK at hh; simpa using hh
        rw [List.getElem?_map, show M[plK (M.map (fun p => p.1.k)) z.1.k]? = some p from by simpa using hj] at h1
        injection h1 with h1
        simp only at h1
        rw [h1]
      | succ j =>
        right
        refine List.mem_append_right _ (List.mem_cons_of_mem _ ?_)
        have : (M.drop (plK (M.map (fun p => p.1.k)) z.1.k + 1))[j]? = some p := by
          rw [List.getElem?_drop, ← hj]
          congr 1
          omega
        exact List.mem_of_getElem? this
  · rcases List.mem_append.1 hsp with h | h
    · exact .inr (List.mem_append_left _ h)
    · exact .inr (List.mem_append_right _ (List.mem_cons_of_mem _ h))
theorem has_look {M : List (Itm × Value)} (hr : risK (keysM M)) (key : ByteArray) : (look M key.toList).isSome = hasK (keysM M) key := by
  cases hh : hasK (keysM M) key with
  | true =>
    have h1 : (keysM M)[plK (keysM M) key]? = some key := by unfold hasK at hh; simpa using hh
    have h2 := List.mem_of_getElem? h1
    obtain ⟨p, hp, rfl⟩ := List.mem_map.1 h2
    rw [ris_look hr hp]
    rfl
  | false =>
    have h3 := ris_insK hr key hh
    rw [look_none (fun p hp e => ?_)]
    · rfl
    · have hm : p.1.k ∈ keysM M := List.mem_map.2 ⟨p, hp, rfl⟩
      have hk : p.1.k = key := by rw [ByteArray.toList_eq, ByteArray.toList_eq] at e; exact ba_ext e
      rw [hk] at hm
      obtain ⟨j, hj⟩ := List.getElem?_of_mem hm
      have hl : j < (keysM M).length := by
        rcases Nat.lt_or_ge j (keysM M).length with h | h
        · exact h
        · rw [List.getElem?_eq_none h] at hj; cases hj
      have hge : plK (keysM M) key ≤ j := by
        rcases Nat.lt_or_ge j (plK (keysM M) key) with h | h
        · have := plK_below hj h; rw [lt14_self] at this; cases this
        · exact h
      have hne : ¬ (keysM M)[plK (keysM M) key]? = some key := by unfold hasK at hh; simpa using hh
      rcases Nat.lt_or_ge (plK (keysM M) key) j with h | h
      · obtain ⟨x, hx⟩ : ∃ x, (keysM M)[plK (keysM M) key]? = some x := ⟨_, List.getElem?_eq_getElem (by omega)⟩
        have h5 := List.pairwise_iff_getElem.1 hr (plK (keysM M) key) j (by omega) hl h
        have h6 := plK_above hr hx (Nat.le_refl _)
        rw [List.getElem?_eq_getElem (by omega)] at hx
        rw [List.getElem?_eq_getElem hl] at hj
        injection hx with hx
        injection hj with hj
        rw [hx, hj, h6] at h5
        cases h5
      · have e : j = plK (keysM M) key := by omega
        rw [e] at hj
        exact hne hj
theorem len_insI (M : List (Itm × Value)) (z : Itm × Value) : (insI M z).length = if hasK (keysM M) z.1.k then M.length else M.length + 1 := by
  have h := congrArg List.length (keys_insI M z)
  have hk : ∀ M : List (Itm × Value), (keysM M).length = M.length := fun M => by simp [keysM]
  rw [hk] at h
  rw [h]
  split
  · exact hk M
  · rw [insK_len _ _ _ (plK_le _ _), hk]
end Go.Proofs.Ytjkfgbmlhglnfaa
/- Layer 14, plain: items behind changes. -/
namespace Go.Proofs.Ytjkfgbmlhglnfaa
open Go.RowKit
set_option linter.unusedVariables false
set_option linter.unusedSimpArgs false

def insR (z : Itm) : List Itm → List Itm
  | [] => [z]
  | x :: l => if lt14 x.k z.k then x :: insR z l else if x.k.toList == z.k.toList then z :: l else z :: x :: l
theorem insI_cons_lt {α : Type} {x : Itm × α} {M : List (Itm × α)} {z : Itm × α} (h : lt14 x.1.k z.1.k = true) : insI (x :: M) z = x :: insI M z := by
  have hp : plK ((x :: M).map (fun p => p.1.k)) z.1.k = plK (M.map (fun p => p.1.k)) z.1.k + 1 := by
    unfold plK
    rw [List.map_cons, List.takeWhile_cons_of_pos (p := fun k => lt14 k z.1.k) h, List.length_cons]
  have hh : hasK ((x :: M).map (fun p => p.1.k)) z.1.k = hasK (M.map (fun p => p.1.k)) z.1.k := by
    unfold hasK
    rw [hp, List.map_cons, List.getElem?_cons_succ]
  unfold insI
  rw [hh, hp]
  split <;> simp
theorem insI_cons_ge {α : Type} {x : Itm × α} {M : List (Itm × α)} {z : Itm × α} (h : lt14 x.1.k z.1.k = false) : insI (x :: M) z = if x.1.k.toList == z.1.k.toList then z :: M else z :: x :: M := by
  have hp : plK ((x :: M).map (fun p => p.1.k)) z.1.k = 0 := by
    unfold plK
    rw [List.map_cons, List.takeWhile_cons_of_neg (by simp [h])]
    rfl
  have hh : hasK ((x :: M).map (fun p => p.1.k)) z.1.k = (x.1.k.toList == z.1.k.toList) := by
    unfold hasK
    rw [hp, List.map_cons, List.getElem?_cons_zero, Bool.eq_iff_iff]
    simp only [decide_eq_true_eq, beq_iff_eq, Option.some.injEq]
    exact ⟨fun e => by rw [e], fun e => by rw [ByteArray.toList_eq, ByteArray.toList_eq] at e; exact ba_ext e⟩
  unfold insI
  rw [hh, hp]
  simp
theorem insI_map (z : Itm × Value) : ∀ M : List (Itm × Value), (insI M z).map (fun p => p.1) = insR z.1 (M.map (fun p => p.1))
  | [] => rfl
  | x :: M => by
    rw [List.map_cons, insR]
    cases h : lt14 x.1.k z.1.k with
    | true => rw [insI_cons_lt h, List.map_cons, insI_map z M, if_pos rfl]
    | false =>
      rw [insI_cons_ge h]
      simp only [Bool.false_eq_true, if_false]
      cases (x.1.k.toList == z.1.k.toList) <;> rfl
theorem fold_laid (z : Itm) : ∀ (L : List Itm) (acc : List Itm), (∀ x ∈ L, (x.k.toList == z.k.toList) = false) → L.foldl (wstI z) (acc, true) = (acc ++ L, true)
  | [], acc, _ => by simp
  | x :: L, acc, h => by
    rw [List.foldl_cons]
    have h1 : wstI z (acc, true) x = (acc ++ [x], true) := by
      unfold wstI
      rw [h x (by simp)]
      simp
    rw [h1, fold_laid z L _ (fun y hy => h y (by simp [hy]))]
    simp
theorem lt14_neq {a b : ByteArray} (h : lt14 a b = true) : (a.toList == b.toList) = false := by
  rw [beq_eq_false_iff_ne]
  exact lt14_ne h
theorem fold_wst (z : Itm) : ∀ (L : List Itm) (acc : List Itm), risK (L.map (·.k)) → (if (L.foldl (wstI z) (acc, false)).2 then (L.foldl (wstI z) (acc, false)).1 else (L.foldl (wstI z) (acc, false)).1 ++ [z]) = acc ++ insR z L
  | [], acc, _ => rfl
  | x :: L, acc, hr => by
    obtain ⟨h1, h2⟩ := List.pairwise_cons.1 (show List.Pairwise (fun a b => lt14 a b = true) (x.k :: L.map (·.k)) from hr)
    rw [List.foldl_cons, insR]
    cases h : lt14 x.k z.k with
    | true =>
      have e : wstI z (acc, false) x = (acc ++ [x], false) := by
        unfold wstI
        rw [lt14_neq h, h]
        simp
      rw [e, fold_wst z L _ h2, if_pos rfl]
      simp
    | false =>
      cases hk : (x.k.toList == z.k.toList) with
      | true =>
        have e : wstI z (acc, false) x = (acc ++ [z], true) := by
          unfold wstI
          rw [hk, h]
          simp
        rw [e, fold_laid z L _ (fun y hy => ?_)]
        · simp
        · have hlt := h1 y.k (List.mem_map.2 ⟨y, hy, rfl⟩)
          have hkk : x.k = z.k := by
            have := eq_of_beq hk
            rw [ByteArray.toList_eq, ByteArray.toList_eq] at this
            exact ba_ext this
          rw [hkk] at hlt
          have := lt14_ne hlt
          rw [beq_eq_false_iff_ne]
          exact fun e => this e.symm
      | false =>
        have e : wstI z (acc, false) x = (acc ++ [z] ++ [x], true) := by
          unfold wstI
          rw [hk, h]
          simp
        rw [e, fold_laid z L _ (fun y hy => ?_)]
        · simp
        · have hlt := h1 y.k (List.mem_map.2 ⟨y, hy, rfl⟩)
          rw [beq_eq_false_iff_ne]
          intro e
          have hyz : y.k = z.k := by rw [ByteArray.toList_eq, ByteArray.toList_eq] at e; exact ba_ext e
          rw [hyz, h] at hlt
          cases hlt
theorem wth_ins {L : List Itm} (hr : risK (L.map (·.k))) {z : Itm} (hz : z.vs ≠ []) : wthI L z = insR z L := by
  unfold wthI
  have : z.vs.isEmpty = false := by
    cases h : z.vs with
    | nil => exact absurd h hz
    | cons a l => rfl
  rw [this]
  exact fold_wst z L [] hr
theorem ris_insR {L : List Itm} (hr : risK (L.map (·.k))) (z : Itm) : risK ((insR z L).map (·.k)) := by
  have hL : (L.map (fun x => ((x, Value.bool false) : Itm × Value))).map (fun p => p.1) = L := by
    rw [List.map_map]
    exact List.map_id L
  have h := ris_insI (M := L.map (fun x => ((x, Value.bool false) : Itm × Value))) (by unfold keysM; rw [List.map_map]; exact hr) (z, Value.bool false)
  have e : keysM (insI (L.map (fun x => ((x, Value.bool false) : Itm × Value))) (z, Value.bool false)) = (insR z L).map (·.k) := by
    have := congrArg (List.map (·.k)) (insI_map (z, Value.bool false) (L.map (fun x => ((x, Value.bool false) : Itm × Value))))
    rw [hL, List.map_map] at this
    exact this
  rw [e] at h
  exact h
theorem fnd_insR (z : Itm) (k : ByteArray) : ∀ L : List Itm, fndI (insR z L) k = if z.k.toList == k.toList then z.vs else fndI L k
  | [] => by
    unfold insR fndI
    rw [List.find?_cons]
    cases h : (z.k.toList == k.toList) <;> simp
  | x :: L => by
    have ih := fnd_insR z k L
    rw [insR]
    cases h : lt14 x.k z.k with
    | true =>
      rw [if_pos rfl]
      unfold fndI at ih ⊢
      rw [List.find?_cons, List.find?_cons]
      cases hx : (x.k.toList == k.toList) with
      | true =>
        have : (z.k.toList == k.toList) = false := by
          rw [beq_eq_false_iff_ne]
          intro e
          have := lt14_ne h
          rw [e] at this
          exact this (eq_of_beq hx)
        rw [this]
        rfl
      | false => exact ih
    | false =>
      rw [if_neg (by decide)]
      cases hk : (x.k.toList == z.k.toList) with
      | true =>
        rw [if_pos rfl]
        unfold fndI
        rw [List.find?_cons, List.find?_cons]
        have e : (x.k.toList == k.toList) = (z.k.toList == k.toList) := by rw [eq_of_beq hk]
        rw [e]
        cases (z.k.toList == k.toList) <;> rfl
      | false =>
        rw [if_neg (by decide)]
        unfold fndI
        rw [List.find?_cons]
        cases (z.k.toList == k.toList) <;> rfl
theorem mem_insR {z p : Itm} : ∀ {L : List Itm}, p ∈ insR z L → p = z ∨ p ∈ L
  | [], h => by simp [insR] at h; exact .inl h
  | x :: L, h => by
    rw [insR] at h
    split at h
    · rcases List.mem_cons.1 h with rfl | h
      · exact .inr (by simp)
      · rcases mem_insR h with h | h
        · exact .inl h
        · exact .inr (by simp [h])
    · split at h
      · rcases List.mem_cons.1 h with h | h
        · exact .inl h
        · exact .inr (by simp [h])
      · rcases List.mem_cons.1 h with h | h
        · exact .inl h
        · exact .inr h
/-- Items as a space has them. -/
def Wf (I : List Itm) (last : Int) : Prop := risK (I.map (·.k)) ∧ ∀ x ∈ I, fit14 x last = true
theorem fit_iff (x : Itm) (last : Int) : fit14 x last = true ↔ x.k.size ≤ 128 ∧ x.vs ≠ [] ∧ chn x.vs = true ∧ ∀ y, x.vs[0]? = some y → y.t ≤ last := by
  unfold fit14
  simp only [Bool.and_eq_true, decide_eq_true_eq, Bool.not_eq_true']
  constructor
  · rintro ⟨h1, h2, h3, h4⟩
    refine ⟨h1, fun e => by rw [e] at h2; simp at h2, h3, fun y hy => ?_⟩
    unfold snc at h4
    rw [h3, hy] at h4
    simp at h4
    exact h4
  · rintro ⟨h1, h2, h3, h4⟩
    refine ⟨h1, List.length_pos_iff.2 h2, h3, ?_⟩
    unfold snc
    rw [h3]
    cases hv : x.vs[0]? with
    | none => rfl
    | some y =>
      have := h4 y hv
      simp
      omega
theorem fit_mono {x : Itm} {a b : Int} (h : fit14 x a = true) (hab : a ≤ b) : fit14 x b = true := by
  rw [fit_iff] at h ⊢
  exact ⟨h.1, h.2.1, h.2.2.1, fun y hy => Int.le_trans (h.2.2.2 y hy) hab⟩
theorem fnd_wf {I : List Itm} {last : Int} (h : Wf I last) (k : ByteArray) : chn (fndI I k) = true ∧ ∀ y, (fndI I k)[0]? = some y → y.t ≤ last := by
  unfold fndI
  cases hf : I.find? (fun p => p.k.toList == k.toList) with
  | none => exact ⟨rfl, fun y hy => by simp at hy⟩
  | some p =>
    have := (fit_iff p last).1 (h.2 p (List.mem_of_find?_eq_some hf))
    exact ⟨this.2.2.1, this.2.2.2⟩
theorem ok1_rt {x : Cg} (h : ok1 x = true) {t : Int} (h1 : 1 ≤ t) (h2 : t ≤ 1152921504606846976) : rt ⟨t, x.v, x.d⟩ = true := by
  unfold ok1 at h
  unfold rt
  simp only [Bool.and_eq_true, decide_eq_true_eq, Bool.or_eq_true, Bool.not_eq_true'] at h ⊢
  refine ⟨⟨h1, h2⟩, h.2.1, fun hd => ?_⟩
  rcases h.2.2 with h3 | h3
  · rw [hd] at h3; cases h3
  · exact (nil_size _).1 (List.isEmpty_iff.1 h3)
theorem add_ok {I : List Itm} {last t : Int} (h : Wf I last) (h0 : 0 ≤ last) (h1 : last < t) (h2 : t ≤ 1152921504606846976) {x : Cg} (hx : ok1 x = true) : add13 (fndI I x.k) ⟨t, x.v, x.d⟩ = (⟨t, x.v, x.d⟩ :: fndI I x.k, 0) := by
  obtain ⟨g1, g2⟩ := fnd_wf h x.k
  unfold add13
  rw [g1, ok1_rt hx (by omega) h2]
  simp only [if_true]
  cases hv : fndI I x.k with
  | nil => rfl
  | cons y l =>
    have := g2 y (by rw [hv]; rfl)
    simp only
    rw [if_neg (by omega)]
theorem add_fit {I : List Itm} {last t : Int} (h : Wf I last) (h0 : 0 ≤ last) (h1 : last < t) (h2 : t ≤ 1152921504606846976) {x : Cg} (hx : ok1 x = true) : fit14 ⟨x.k, (add13 (fndI I x.k) ⟨t, x.v, x.d⟩).1⟩ t = true := by
  rw [add_ok h h0 h1 h2 hx, fit_iff]
  obtain ⟨g1, g2⟩ := fnd_wf h x.k
  refine ⟨?_, by simp, (chn_cons _ _).2 ⟨ok1_rt hx (by omega) h2, fun y hy => ?_, g1⟩, fun y hy => ?_⟩
  · unfold ok1 at hx
    simp only [Bool.and_eq_true, decide_eq_true_eq] at hx
    exact hx.1
  · have := g2 y hy
    show y.t < t
    omega
  · simp at hy
    subst hy
    exact Int.le_refl _
/-- Items behind changes. -/
def aplR (I0 : List Itm) (t : Int) (C : List Cg) : List Itm := C.foldl (fun I x => insR ⟨x.k, (add13 (fndI I0 x.k) ⟨t, x.v, x.d⟩).1⟩ I) I0
theorem aplR_snoc (I0 : List Itm) (t : Int) (C : List Cg) (x : Cg) : aplR I0 t (C ++ [x]) = insR ⟨x.k, (add13 (fndI I0 x.k) ⟨t, x.v, x.d⟩).1⟩ (aplR I0 t C) := by
  unfold aplR
  rw [List.foldl_append]
  rfl
theorem apl_snoc (I0 : List Itm) (t : Int) (C : List Cg) (x : Cg) : apl I0 t (C ++ [x]) = wthI (apl I0 t C) ⟨x.k, (add13 (fndI I0 x.k) ⟨t, x.v, x.d⟩).1⟩ := by
  unfold apl
  rw [List.foldl_append]
  rfl
theorem aplR_wf {I0 : List Itm} {last t : Int} (h : Wf I0 last) (h0 : 0 ≤ last) (h1 : last < t) (h2 : t ≤ 1152921504606846976) : ∀ (n : Nat) (C : List Cg), C.length = n → (∀ x ∈ C, ok1 x = true) → Wf (aplR I0 t C) t ∧ apl I0 t C = aplR I0 t C
  | 0, C, hn, _ => by
    obtain rfl := List.eq_nil_of_length_eq_zero hn
    exact ⟨⟨h.1, fun x hx => fit_mono (h.2 x hx) (by omega)⟩, rfl⟩
  | n + 1, C, hn, hC => by
    obtain ⟨C', x, rfl⟩ : ∃ C' x, C = C' ++ [x] := by
      have hne : C ≠ [] := fun e => by rw [e] at hn; simp at hn
      exact ⟨C.dropLast, C.getLast hne, (List.dropLast_concat_getLast hne).symm⟩
    rw [List.length_append, List.length_singleton] at hn
    obtain ⟨g1, g2⟩ := aplR_wf h h0 h1 h2 n C' (by omega) (fun y hy => hC y (by simp [hy]))
    have hx := hC x (by simp)
    have hf := add_fit h h0 h1 h2 hx
    refine ⟨⟨by rw [aplR_snoc]; exact ris_insR g1.1 _, fun y hy => ?_⟩, ?_⟩
    · rw [aplR_snoc] at hy
      rcases mem_insR hy with rfl | hy
      · exact hf
      · exact g1.2 y hy
    · rw [aplR_snoc, apl_snoc, g2]
      exact wth_ins g1.1 ((fit_iff _ _).1 hf).2.1
theorem fnd_aplR (I0 : List Itm) (t : Int) (k : ByteArray) : ∀ (n : Nat) (C : List Cg), C.length = n → C.any (fun y => y.k.toList == k.toList) = false → fndI (aplR I0 t C) k = fndI I0 k
  | 0, C, hn, _ => by
    obtain rfl := List.eq_nil_of_length_eq_zero hn
    rfl
  | n + 1, C, hn, hC => by
    obtain ⟨C', x, rfl⟩ : ∃ C' x, C = C' ++ [x] := by
      have hne : C ≠ [] := fun e => by rw [e] at hn; simp at hn
      exact ⟨C.dropLast, C.getLast hne, (List.dropLast_concat_getLast hne).symm⟩
    rw [List.length_append, List.length_singleton] at hn
    rw [List.any_append, Bool.or_eq_false_iff] at hC
    rw [aplR_snoc, fnd_insR, fnd_aplR I0 t k n C' (by omega) hC.1]
    have : (x.k.toList == k.toList) = false := by simpa using hC.2
    rw [this]
    rfl
end Go.Proofs.Ytjkfgbmlhglnfaa
