/- Layer 14: what a map of chains tells behind a change; steps of drawn regions. -/
import Derived.Test.YtjkfgbmlhglnfaaSpU
namespace Go.Proofs.Ytjkfgbmlhglnfaa
open Go.RowKit Go.Shelf
set_option linter.unusedVariables false
set_option linter.unusedSimpArgs false
set_option maxRecDepth 100000

theorem step_update_mp {w : World} {ops : Array Oper} {o : Oper} {a : Act} {K : Act → World → Prop} {Q : Exit → Act → World → Prop} {E : Prop} (hg : o.guard = none) (t e : TypeId) (ht : Try.prog.underlying t = some (.map 9 e)) (m x v : Operand) (hop : o.op = Op.mapUpdate t m x v)
    (g n : Nat) (F : List UInt8 → Option Value) (s : ByteArray) (u : Value) (hs : s.size ≤ maxLen) (hm : a.eval m = .map (some g)) (h : Mp w g n F) (hn : n < maxLen) (hx : a.eval x = .string s) (hv : a.eval v = u)
    (hK : ∀ w', Mp w' g (if (F s.toList).isSome then n else n + 1) (upd F s.toList (some u)) → Turn (fun k => k = g) w w' → K (a.put o.dst undef) w') : if Region.wanted o (yielded ops a.tmps) = true then Oper.wp Try.prog o a w K Q else E := by
  have hw : Region.wanted o (yielded ops a.tmps) = true := by simp [Region.wanted, hg]
  rw [if_pos hw]
  obtain ⟨w', hr, h1, h2⟩ := h.store ht hn s hs u
  unfold Oper.wp
  simp [execOp, hop, hm, hx, hv, hr, Result.andThen]
  exact hK w' h1 h2
theorem look_none {M : List (Itm × Value)} {k : List UInt8} (h : ∀ p ∈ M, p.1.k.toList ≠ k) : look M k = none := by
  unfold look
  rw [List.find?_eq_none.2 (fun p hp => by simpa using h p hp)]
  rfl
theorem look_mem {M : List (Itm × Value)} {k : List UInt8} {v : Value} (h : look M k = some v) : ∃ p ∈ M, p.1.k.toList = k ∧ p.2 = v := by
  unfold look at h
  cases hf : M.find? (fun p => p.1.k.toList == k) with
  | none => rw [hf] at h; cases h
  | some p =>
    rw [hf] at h
    injection h with h
    exact ⟨p, List.mem_of_find?_eq_some hf, by simpa using List.find?_some hf, h⟩
theorem look_cases {M : List (Itm × Value)} (hr : risK (keysM M)) (k : List UInt8) : (look M k = none ∧ ∀ p ∈ M, p.1.k.toList ≠ k) ∨ ∃ p ∈ M, p.1.k.toList = k ∧ look M k = some p.2 := by
  by_cases h : ∃ p ∈ M, p.1.k.toList = k
  · obtain ⟨p, hp, rfl⟩ := h
    exact .inr ⟨p, hp, rfl, ris_look hr hp⟩
  · have h2 : ∀ p ∈ M, p.1.k.toList ≠ k := fun p hp e => h ⟨p, hp, e⟩
    exact .inl ⟨look_none h2, h2⟩
theorem look_upd {M M2 : List (Itm × Value)} {z : Itm} {u : Value} (hr : risK (keysM M)) (hr2 : risK (keysM M2)) (h1 : (z, u) ∈ M2) (h2 : ∀ p ∈ M2, p = (z, u) ∨ p ∈ M) (h3 : ∀ p ∈ M, p.1.k.toList = z.k.toList ∨ p ∈ M2) : look M2 = upd (look M) z.k.toList (some u) := by
  funext k
  by_cases hk : k = z.k.toList
  · subst hk
    rw [upd_at]
    exact ris_look hr2 h1
  · rw [upd_ne _ _ hk]
    rcases look_cases hr2 k with ⟨e, hn⟩ | ⟨p, hp, rfl, e⟩
    · rw [e, look_none (fun p hp e2 => by
        rcases h3 p hp with h | h
        · exact hk (e2.symm.trans h)
        · exact hn p h e2)]
    · rw [e]
      rcases h2 p hp with rfl | h
      · exact absurd rfl hk
      · exact (ris_look hr h).symm
theorem look_del {M M2 : List (Itm × Value)} {k0 : List UInt8} (hr : risK (keysM M)) (hr2 : risK (keysM M2)) (h2 : ∀ p ∈ M2, p ∈ M ∧ p.1.k.toList ≠ k0) (h3 : ∀ p ∈ M, p.1.k.toList = k0 ∨ p ∈ M2) : look M2 = upd (look M) k0 none := by
  funext k
  by_cases hk : k = k0
  · subst hk
    rw [upd_at]
    exact look_none (fun p hp => (h2 p hp).2)
  · rw [upd_ne _ _ hk]
    rcases look_cases hr2 k with ⟨e, hn⟩ | ⟨p, hp, rfl, e⟩
    · rw [e, look_none (fun p hp e2 => by
        rcases h3 p hp with h | h
        · exact hk (e2.symm.trans h)
        · exact hn p h e2)]
    · rw [e]
      exact (ris_look hr (h2 p hp).1).symm
theorem ris_snoc {K : List ByteArray} {k : ByteArray} (hr : risK K) (h : ∀ x ∈ K, lt14 x k = true) : risK (K ++ [k]) := by
  unfold risK
  rw [List.pairwise_append]
  exact ⟨hr, List.pairwise_singleton _ _, fun a ha b hb => by simp at hb; subst hb; exact h a ha⟩
theorem lt14_ne {a b : ByteArray} (h : lt14 a b = true) : a.toList ≠ b.toList := fun e => by
  rw [ByteArray.toList_eq, ByteArray.toList_eq] at e
  rw [ba_ext e, lt14_self] at h
  cases h
/-- A key more behind all. -/
theorem sp_snoc {W W9 : World} {q g : Nat} {vk vk' u : Value} {M : List (Itm × Value)} {last mark : Int} {z : Itm} (h : Sp W q vk g M last mark) (hbox : Blk W9 q 126 [vk', .map (some g), .int .i64 last, .int .i64 mark]) (hkeys : Kr W9 vk' (keysM M ++ [z.k]))
    (hmap : Mp W9 g (if (look M z.k.toList).isSome then M.length else M.length + 1) (upd (look M) z.k.toList (some u))) (hlt : ∀ x ∈ keysM M, lt14 x z.k = true) (hv : VrF (Sw q vk' g) W9 u z.vs) (hcv : Cv u) (hne : z.vs ≠ [])
    (ht : Turn (Sw q vk g) W W9) (hvk : ∀ b, vk'.ownBlock = some b → vk.ownBlock = some b ∨ W.heap.size ≤ b) : Sp W9 q vk' g (M ++ [(z, u)]) last mark := by
  have hk2 : keysM (M ++ [(z, u)]) = keysM M ++ [z.k] := by simp [keysM]
  have hr2 : risK (keysM (M ++ [(z, u)])) := by rw [hk2]; exact ris_snoc h.ord hlt
  have hno : ∀ p ∈ M, p.1.k.toList ≠ z.k.toList := fun p hp => lt14_ne (hlt p.1.k (List.mem_map.2 ⟨p, hp, rfl⟩))
  refine ⟨hbox, by rw [hk2]; exact hkeys, ?_, fun p hp => ?_, hr2, h.sep.1, fun b hb => ?_⟩
  · rw [look_none hno] at hmap
    rw [look_upd (z := z) (u := u) h.ord hr2 (List.mem_append_right _ (List.mem_singleton.2 rfl)) (fun p hp => (List.mem_append.1 hp).elim (fun h => .inr h) (fun h => .inl (List.mem_singleton.1 h))) (fun p hp => .inr (List.mem_append_left _ hp))]
    simpa using hmap
  · rcases List.mem_append.1 hp with hp | hp
    · obtain ⟨k1, k2, k3⟩ := h.vers p hp
      refine ⟨⟨k1.1.turn ht (fun hh b hb e => k1.2 hh b hb e), fun hh b hb e => ?_⟩, k2, k3⟩
      rcases e with e | e | e
      · exact k1.2 hh b hb (.inl e)
      · exact k1.2 hh b hb (.inr (.inl e))
      · rcases hvk b e with h9 | h9
        · exact k1.2 hh b hb (.inr (.inr h9))
        · obtain ⟨b', e1, hlt⟩ := k1.1.at_ hh
          rw [hb] at e1
          cases e1
          omega
    · simp at hp
      subst hp
      exact ⟨hv, hcv, hne⟩
  · rcases hvk b hb with h9 | h9
    · exact h.sep.2 b h9
    · exact ⟨fun e => by have := h.box.lt; omega, fun e => by have := h.map.lt; omega⟩
end Go.Proofs.Ytjkfgbmlhglnfaa
/- Layer 14: the program's of, New. (mkSpX.py) -/
namespace Go.Proofs.Ytjkfgbmlhglnfaa
open Go.RowKit Go.Shelf
set_option linter.unusedVariables false
set_option linter.unusedSimpArgs false
set_option maxRecDepth 100000

theorem info_str14 : (Try.prog.info? 9).map (fun i => (i.zero, i.size, i.bytes)) = some (some (.string ⟨#[]⟩), 1, 16) := by kernel_rfl
/-- A key behind all keys: the row, and what else stands. -/
theorem key_step14 {W w8 : World} {q g i cK c8 : Nat} {AK A8 : Option Addr} {M : List (Itm × Value)} {last mark : Int} {pk : ByteArray} {o : Obj} (h : Sp W q (.slice AK i cK) g M last mark)
    (h8 : w8.ownsRow 0 9 1 (.slice A8 (i + 1) c8) (i + 1) ((keysM M).map Value.string ++ [.string pk])) (t8 : Turn (fun j => (Value.slice AK i cK).ownBlock = some j) (W.drew.alloc o) w8) (hp8 : (Value.slice A8 (i + 1) c8).ownBlock = (Value.slice AK i cK).ownBlock ∨ (Value.slice A8 (i + 1) c8).ownBlock = some (W.drew.alloc o).heap.size) :
    w8.cell? ⟨q, 0, none⟩ = some (.slice AK i cK) ∧ w8.frozen? ⟨q, 0, none⟩ = false ∧ Blk (w8.setCell ⟨q, 0, none⟩ (.slice A8 (i + 1) c8)) q 126 [.slice A8 (i + 1) c8, .map (some g), .int .i64 last, .int .i64 mark] ∧ Kr (w8.setCell ⟨q, 0, none⟩ (.slice A8 (i + 1) c8)) (.slice A8 (i + 1) c8) (keysM M ++ [pk]) ∧ Mp (w8.setCell ⟨q, 0, none⟩ (.slice A8 (i + 1) c8)) g M.length (look M) ∧ Turn (Sw q (.slice AK i cK) g) W (w8.setCell ⟨q, 0, none⟩ (.slice A8 (i + 1) c8)) ∧ ∀ b, (Value.slice A8 (i + 1) c8).ownBlock = some b → (Value.slice AK i cK).ownBlock = some b ∨ W.heap.size ≤ b := by
  have hil : (keysM M).length = i := by
    obtain ⟨hl, _⟩ := h8
    rw [List.length_append, List.length_map, List.length_singleton] at hl
    omega
  have T8 : Turn (fun k => (Value.slice AK i cK).ownBlock = some k) W w8 := ((Turn.refl _ _).drew.alloc o).trans t8
  have hqn : ¬ (Value.slice AK i cK).ownBlock = some q := fun e => (h.sep.2 q e).1 rfl
  have hgn : ¬ (Value.slice AK i cK).ownBlock = some g := fun e => (h.sep.2 g e).2 rfl
  have b8 := h.box.turn T8 hqn
  have TS : Turn (fun k => k = q) w8 (w8.setCell ⟨q, 0, none⟩ (.slice A8 (i + 1) c8)) := (Turn.refl (fun k => k = q) w8).setCell (p := ⟨q, 0, none⟩) (.inl rfl) _
  refine ⟨b8.cell 0, b8.free 0, b8.put 0 _, ?_, (h.map.turn T8 hgn).turn TS (fun e => h.sep.1 e.symm), (T8.mono (fun k _ e => .inr (.inr e))).trans_new TS (fun k _ e => .inl e), fun b hb => ?_⟩
  · have k8 : Kr w8 (.slice A8 (i + 1) c8) (keysM M ++ [pk]) := by
      unfold Kr
      rw [List.length_append, hil, List.map_append]
      exact h8
    refine k8.turn TS (fun k hk e => ?_)
    subst e
    rcases hp8 with e | e
    · rw [e] at hk; exact hqn hk
    · rw [e] at hk
      have := h.box.lt
      have h9 : (W.drew.alloc o).heap.size = W.heap.size + 1 := World.size_alloc _ _
      rw [h9] at hk
      injection hk with hk
      omega
  · rcases hp8 with e | e
    · rw [e] at hb; exact .inl hb
    · rw [e] at hb
      have h9 : (W.drew.alloc o).heap.size = W.heap.size + 1 := World.size_alloc _ _
      rw [h9] at hb
      injection hb with hb
      exact .inr (by omega)
/-- Versions that lie behind a mark of the heap. -/
def Vf14 (B : Nat) (M : List (Itm × Value)) : Prop := ∀ p ∈ M, 0 < p.1.vs.length → ∀ b, vb p.2 = some b → B ≤ b
set_option maxHeartbeats 8000000 in
theorem of_14 (M : List (Itm × Value)) (v : Value) (last mark : Int) (w : World) (h : Ix w v M) (hb : Bm 10000000 M) (hr : risK (keysM M)) (hcv : ∀ p ∈ M, Cv p.2 ∧ p.1.vs ≠ []) :
    Calls Try.prog 78 #[v, .int .i64 last, .int .i64 mark] w fun e w' => ∃ q vk g M', e = .returned (.pointer (some ⟨q, 0, none⟩)) ∧ Sp w' q vk g M' last mark ∧ M'.map (·.1) = M.map (·.1) ∧ ((∀ k, Sw q vk g k → w.heap.size ≤ k) ∧ Vf14 w.heap.size M') ∧ Turn (fun _ => False) w w' := by
  obtain ⟨A, c, rfl, hl, hrc, hiw⟩ := h
  obtain ⟨n, hn⟩ : ∃ n, M.length = n := ⟨_, rfl⟩
  have HN := Lib.hid hn
  have HR := Lib.hid hrc
  have HW := Lib.hid hiw
  have HB := Lib.hid hb
  have HRS := Lib.hid hr
  have HCV := Lib.hid hcv
  have hn1 : n ≤ 10000000 := by rw [← hn]; exact hb.1
  rw [hn] at hl ⊢
  obtain ⟨W1, hW1⟩ : ∃ W, (w.alloc (.map #[] 0)).alloc (.cells #[.slice none 0 0, .map (some w.heap.size), .int .i64 last, .int .i64 mark] 126) = W := ⟨_, rfl⟩
  have TW : Hid (Turn (fun _ => False) w W1) := Lib.hid (hW1 ▸ ((Turn.refl _ _).alloc _).alloc _)
  have hW1s : W1.heap.size = w.heap.size + 2 := by rw [← hW1]; simp
  have S1 : Hid (Sp W1 (w.heap.size + 1) (.slice none 0 0) w.heap.size [] last mark) := Lib.hid (hW1 ▸ ⟨Blk.new_ _ _ _ (by simp), kr_nil _, (Mp.made w).still ((Turn.refl _ _).alloc _), (fun p hp => by cases hp), List.Pairwise.nil, ⟨(by omega), (fun b hb => by cases hb)⟩⟩)
  have hmm := @run_makeMap Try.prog
  clear hn hrc hiw hb hr hcv
  go_enter Try.func78, Try.ntmps78
  go_wp2_with fail
  clear hW1 hmm
  go_loopw [17] (fun v17 wr => ∃ (i : Nat) (vk : Value) (M' : List (Itm × Value)), i ≤ n ∧ v17 = .int .i64 i ∧ Sp wr (w.heap.size + 1) vk w.heap.size M' last mark ∧ Hid (M'.map (fun p : Itm × Value => p.1) = (M.take i).map (fun p : Itm × Value => p.1)) ∧ Hid ((∀ k, Sw (w.heap.size + 1) vk w.heap.size k → w.heap.size ≤ k) ∧ Vf14 w.heap.size M') ∧ Turn (fun _ => False) w wr) (fun v17 _ => n - (intOf v17).toNat)
  case atStart => exact ⟨0, _, [], Nat.zero_le _, rfl, S1.out, Lib.hid rfl, Lib.hid ⟨fun k hk => (by rcases hk with h | h | h; omega; omega; cases h), fun p hp => (by cases hp)⟩, TW.out⟩
  case round =>
    clear S1 TW
    obtain ⟨i, vk, M', hi, rfl, hsp, HML, HFP, ht⟩ := hrel
    obtain ⟨wx, rfl⟩ : ∃ W, W = wr := ⟨_, rfl⟩
    by_cases hlt : i < n
    · have hl1 : (i : Int) < (n : Int) := by omega
      have hl0 : (0 : Int) ≤ (i : Int) := by omega
      have hq := wrap_of ((i : Int) + 1) (by omega) (by omega)
      obtain ⟨p, hp⟩ : ∃ p, M[i]? = some p := ⟨_, List.getElem?_eq_getElem (by rw [HN.out]; exact hlt)⟩
      have hpm := List.mem_of_getElem? hp
      have hvv := HW.out p hpm
      obtain ⟨hcv, hne⟩ := HCV.out p hpm
      obtain ⟨hlb, hkb⟩ := HB.out.2 p hpm
      have hil : M'.length = i := by
        have := congrArg List.length HML.out
        rw [List.length_map, List.length_map, List.length_take, HN.out] at this
        omega
      have HLT : Hid (∀ x ∈ keysM M', lt14 x p.1.k = true) := Lib.hid (by
        have e1 : keysM M' = (keysM M).take i := by
          have : (M'.map (fun p : Itm × Value => p.1)).map (·.k) = ((M.take i).map (fun p : Itm × Value => p.1)).map (·.k) := by rw [HML.out]
          rw [List.map_map, List.map_map, List.map_take] at this
          exact this
        rw [e1]
        intro x hx
        obtain ⟨j, hj⟩ := List.getElem?_of_mem hx
        have hji : j < i := by
          rcases Nat.lt_or_ge j i with h | h
          · exact h
          · rw [List.getElem?_take_eq_none h] at hj; cases hj
        rw [List.getElem?_take_of_lt hji] at hj
        have h5 := List.pairwise_iff_getElem.1 HRS.out j i (by simp [keysM]; rw [HN.out]; omega) (by simp [keysM]; rw [HN.out]; omega) hji
        rw [List.getElem?_eq_getElem (by simp [keysM]; rw [HN.out]; omega)] at hj
        injection hj with hj
        rw [hj] at h5
        have h6 : (keysM M)[i]'(by simp [keysM]; rw [HN.out]; omega) = p.1.k := by
          have := key_at hp
          rw [List.getElem?_eq_getElem (by simp [keysM]; rw [HN.out]; omega)] at this
          injection this
        rw [h6] at h5
        exact h5)
      have HNX : Hid ((M.take (i + 1)).map (fun p : Itm × Value => p.1) = (M.take i).map (fun p : Itm × Value => p.1) ++ [p.1]) := Lib.hid (by rw [take_next hp, List.map_append]; rfl)
      obtain ⟨b, o, rfl, hb1, hcc⟩ := HR.out.item (by rw [HN.out]; omega)
      obtain ⟨c0, c1⟩ := hcc wx ht i p hp
      obtain ⟨⟨pk, pvs⟩, pv⟩ := p
      simp only at hvv hcv hne hlb hkb HLT HNX c0 c1
      obtain ⟨AV, cV, rfl⟩ := hvv.len
      obtain ⟨m, hm⟩ : ∃ m, pvs.length = m := ⟨_, rfl⟩
      have HCL0 : Hid (∀ W, Turn (fun _ => False) w W → ∀ X, Turn (fun _ => False) W X → Calls Try.prog 120 #[.slice AV m cV] X fun e w' => ∃ v, e = .returned v ∧ (∃ A' c', v = .slice A' m c' ∧ Vr w' (.slice A' m c') pvs ∧ Cw W.heap.size (.slice A' m c') ∧ Turn (fun _ => False) W w')) := Lib.hid (fun W hW X hX => by
        rw [← hm]
        refine (clone14 pvs _ X ((hvv.still hW).still hX) hcv (by omega)).mono ?_
        rintro e w7 ⟨v', rfl, k1, k2, k3⟩
        obtain ⟨A', c', rfl⟩ := k1.len
        exact ⟨_, rfl, A', c', rfl, k1, fun A n c e => ⟨(k2 A n c e).1, fun h a e2 => Nat.le_trans hX.size ((k2 A n c e).2 h a e2)⟩, hX.trans k3⟩)
      rw [hm] at c1
      obtain ⟨W2, hW2⟩ : ∃ W, wx.alloc (.cells #[.string pk, .slice AV m cV] 40) = W := ⟨_, rfl⟩
      have SP2' : Sp W2 (w.heap.size + 1) vk w.heap.size M' last mark := hW2 ▸ hsp.still ((Turn.refl _ _).alloc _)
      have TT2 : Hid (Turn (fun _ => False) w W2) := Lib.hid (hW2 ▸ ht.alloc _)
      have IB : Hid (Blk W2 wx.heap.size 40 [.string pk, .slice AV m cV]) := Lib.hid (hW2 ▸ Blk.new _ _ _)
      obtain ⟨AK, cK, rfl⟩ : ∃ A c, vk = .slice A i c := by
        obtain ⟨A, c, e⟩ := own_slice_ hsp.keys
        exact ⟨A, c, by rw [e]; simp [keysM, hil]⟩
      have SP2 := Lib.hid SP2'
      have KO : Hid (W2.ownsRow 0 9 1 (.slice AK i cK) i ((keysM M').map Value.string)) := Lib.hid (by have := SP2'.keys; unfold Kr at this; rw [show (keysM M').length = i by simp [keysM, hil]] at this; exact this)
      have hwx : w.heap.size + 1 < wx.heap.size := hsp.box.lt
      have HIK : Hid (¬ (Value.slice AK i cK).ownBlock = some wx.heap.size) := Lib.hid (fun e => by have := hsp.keys.lt _ e; omega)
      have x0 := SP2'.box.cell 0
      have x1 := IB.out.cell 0
      have kx : (W2.alloc (.cells #[.string pk] 9)).cell? ⟨w.heap.size + 1, 0, none⟩ = some (.slice AK i cK) := (SP2'.box.alloc _).cell 0
      have y2 : W2.drew.cell? ⟨wx.heap.size, 0, none⟩ = some (.string pk) := IB.out.drew.cell 0
      simp only [List.getElem?_cons_zero] at x0 x1
      have HLAST : Hid (∀ W5 w7 w9 A7 c7 vk', Blk W5 (w.heap.size + 1) 126 [vk', .map (some w.heap.size), .int .i64 last, .int .i64 mark] → Kr W5 vk' (keysM M' ++ [pk]) → Turn (Sw (w.heap.size + 1) (.slice AK i cK) w.heap.size) W2 W5 → (∀ b, vk'.ownBlock = some b → (Value.slice AK i cK).ownBlock = some b ∨ W2.heap.size ≤ b) → Vr w7 (.slice A7 m c7) pvs → Cw W5.heap.size (.slice A7 m c7) → Turn (fun _ => False) W5 w7 → Mp w9 w.heap.size (if (look M' pk.toList).isSome then M'.length else M'.length + 1) (upd (look M') pk.toList (some (.slice A7 m c7))) → Turn (fun k => k = w.heap.size) w7 w9 →
          Sp w9 (w.heap.size + 1) vk' w.heap.size (M' ++ [((⟨pk, pvs⟩ : Itm), Value.slice A7 m c7)]) last mark ∧ Hid ((M' ++ [((⟨pk, pvs⟩ : Itm), Value.slice A7 m c7)]).map (fun p : Itm × Value => p.1) = (M.take (i + 1)).map (fun p : Itm × Value => p.1)) ∧ Hid ((∀ k, Sw (w.heap.size + 1) vk' w.heap.size k → w.heap.size ≤ k) ∧ Vf14 w.heap.size (M' ++ [((⟨pk, pvs⟩ : Itm), Value.slice A7 m c7)])) ∧ Turn (fun _ => False) w w9) := Lib.hid (fun W5 w7 w9 A7 c7 vk' b5 k5 t5 p5 v7 n7 t7 m9 t9 => by
        have hwl := TT2.out.size
        have hW2s : W2.heap.size = wx.heap.size + 1 := by rw [← hW2]; exact World.size_alloc _ _
        have g5 : ∀ b, vk'.ownBlock = some b → b ≠ w.heap.size + 1 ∧ b ≠ w.heap.size ∧ w.heap.size ≤ b ∧ b < W5.heap.size := fun b hb => by
          have h1 := k5.lt b hb
          rcases p5 b hb with h | h
          · have h2 := SP2.out.sep.2 b h
            exact ⟨h2.1, h2.2, HFP.out.1 b (.inr (.inr h)), h1⟩
          · exact ⟨by omega, by omega, by omega, h1⟩
        have t57 := t7
        have tt9 : Turn (fun _ => False) w w9 := ((TT2.out.trans_new t5 (fun k hk h => by have := HFP.out.1 k h; omega)).trans t7).trans_new t9 (fun k hk h => by omega)
        have hg5 : w.heap.size < W5.heap.size := by have := b5.lt; omega
        have hnew : ∀ b, vb (.slice A7 m c7) = some b → 0 < m → W5.heap.size ≤ b := fun b hb hm0 => by
          cases A7 with
          | none => cases hb
          | some ad => cases hb; exact (n7 _ _ _ rfl).2 hm0 ad rfl
        refine ⟨sp_snoc (z := ⟨pk, pvs⟩) SP2.out ((b5.turn t7 (fun h => h)).turn t9 (by omega)) ((k5.turn t7 (fun _ _ h => h)).turn t9 (fun k hk e => (g5 k hk).2.1 e)) m9 HLT.out ⟨v7.turn t9 (fun hp b hb e => by have := hnew b hb (by rw [← hm]; exact hp); omega), fun hp b hb e => ?_⟩ n7.cv hne ((t5.trans (t7.mono (fun k _ h => h.elim))).trans_new t9 (fun k _ h => .inr (.inl h))) p5, ?_, ?_, tt9⟩
        · have h3 := hnew b hb (by rw [← hm]; exact hp)
          rcases e with e | e | e
          · have := b5.lt; omega
          · omega
          · have := (g5 b e).2.2.2; omega
        · exact Lib.hid (by rw [List.map_append, HML.out, HNX.out]; rfl)
        · exact Lib.hid ⟨fun k hk => (by
            rcases hk with e | e | e
            · omega
            · omega
            · exact (g5 k e).2.2.1), fun p hp h0 b hb => (by
            rcases List.mem_append.1 hp with h | h
            · exact HFP.out.2 p h h0 b hb
            · rw [List.mem_singleton.1 h] at hb h0
              have := hnew b hb (by rw [← hm]; exact h0)
              omega)⟩)
      clear hp hpm hvv hcv hne hlb hcc hb1 hm hsp ht SP2' hW1s
      go_wp2_with fail
      -- region
      refine wp_region_noPanic ?_
      refine wp_region_held_drew (S := (fun X => X.cell? ⟨wx.heap.size, 0, none⟩ = some (.string pk))) (by kernel_rfl) y2 (fun hHeld => ?_)
      clear hHeld
      refine wpAnyH_take (i := 0) (v := ?_) rfl (by kernel_rfl) (by kernel_rfl) (by kernel_rfl) (fun _ _ _ h => h) (Or.inl ⟨by rfl, ?_⟩) (by assumption) ?_
      rotate_left 1
      · intro w' hSw
        go_simp
        all_goals first | with_reducible rfl | (rw [if_neg (by omega)]; done) | (rw [if_pos (by omega)]; done)
      try simp only [List.getElem_toArray, List.getElem_cons_zero, List.getElem_cons_succ, Act.put, List.setIfInBounds_toArray, List.set_cons_zero, List.set_cons_succ]
      refine wpAnyH_take (i := 1) (v := ?_) rfl (by kernel_rfl) (by kernel_rfl) (by kernel_rfl) (fun _ _ _ h => h) (Or.inl ⟨by rfl, ?_⟩) (by assumption) ?_
      rotate_left 1
      · intro w' hSw
        go_simp
        all_goals first | with_reducible rfl | (rw [if_neg (by omega)]; done) | (rw [if_pos (by omega)]; done)
      try simp only [List.getElem_toArray, List.getElem_cons_zero, List.getElem_cons_succ, Act.put, List.setIfInBounds_toArray, List.set_cons_zero, List.set_cons_succ]
      refine wpAnyH_take (i := 2) (v := ?_) rfl (by kernel_rfl) (by kernel_rfl) (by kernel_rfl) (fun _ _ _ h => h) (Or.inl ⟨by rfl, ?_⟩) (by assumption) ?_
      rotate_left 1
      · intro w' hSw
        go_simp
        all_goals first | with_reducible rfl | (rw [if_neg (by omega)]; done) | (rw [if_pos (by omega)]; done)
      try simp only [List.getElem_toArray, List.getElem_cons_zero, List.getElem_cons_succ, Act.put, List.setIfInBounds_toArray, List.set_cons_zero, List.set_cons_succ]
      refine wpAnyH_take (i := 3) (v := ?_) rfl (by kernel_rfl) (by kernel_rfl) (by kernel_rfl) (fun _ _ _ h => h) (Or.inl ⟨by rfl, ?_⟩) (by assumption) ?_
      rotate_left 1
      · intro w' hSw
        go_simp
        all_goals first | with_reducible rfl | (rw [if_neg (by omega)]; done) | (rw [if_pos (by omega)]; done)
      try simp only [List.getElem_toArray, List.getElem_cons_zero, List.getElem_cons_succ, Act.put, List.setIfInBounds_toArray, List.set_cons_zero, List.set_cons_succ]
      refine wpAnyH_take (i := 5) (v := ?_) rfl (by kernel_rfl) (by kernel_rfl) (by kernel_rfl) (fun _ _ _ h => h) (Or.inl ⟨by rfl, ?_⟩) (by assumption) ?_
      rotate_left 1
      · intro w' hSw
        go_simp
        all_goals first | with_reducible rfl | (rw [if_neg (by omega)]; done) | (rw [if_pos (by omega)]; done)
      try simp only [List.getElem_toArray, List.getElem_cons_zero, List.getElem_cons_succ, Act.put, List.setIfInBounds_toArray, List.set_cons_zero, List.set_cons_succ]
      refine wpAnyH_take (i := 6) (v := ?_) rfl (by kernel_rfl) (by kernel_rfl) (by kernel_rfl) (fun _ _ _ h => h) (Or.inl ⟨by rfl, ?_⟩) (by assumption) ?_
      rotate_left 1
      · intro w' hSw
        have hS1 := hSw
        go_simp
        all_goals first | with_reducible rfl | (rw [if_neg (by omega)]; done) | (rw [if_pos (by omega)]; done)
      try simp only [List.getElem_toArray, List.getElem_cons_zero, List.getElem_cons_succ, Act.put, List.setIfInBounds_toArray, List.set_cons_zero, List.set_cons_succ]
      refine wpAnyH_ready (rs := [4, 7]) (by kernel_rfl) (by simp) ?_
      refine AllReadyH.cons rfl (fun K hK => ?_) (AllReadyH.cons rfl (fun K hK => ?_) AllReadyH.nil)
      · go_simp
        refine hK.out _ _ (by assumption) (fun hHeld => ?_)
        clear hHeld hK K
        try simp only [List.getElem_toArray, List.getElem_cons_zero, List.getElem_cons_succ, Act.put, List.setIfInBounds_toArray, List.set_cons_zero, List.set_cons_succ]
        refine wpAnyH_ready (rs := [7]) (by kernel_rfl) (by simp) ?_
        refine AllReadyH.cons rfl (fun K hK => ?_) AllReadyH.nil
        go_simp
        have y7 := (IB.out.drew.alloc (.cells #[.string pk] 9)).cell 0
        simp only [List.getElem?_cons_zero] at y7
        refine hK.out _ _ y7 (fun hHeld => ?_)
        clear hHeld hK K
        try simp only [List.getElem_toArray, List.getElem_cons_zero, List.getElem_cons_succ, Act.put, List.setIfInBounds_toArray, List.set_cons_zero, List.set_cons_succ]
        refine wpAnyH_ready (rs := [8]) (by kernel_rfl) (by simp) ?_
        refine AllReadyH.cons rfl (fun K hK => ?_) AllReadyH.nil
        refine step_app14 rfl _ _ 43 rfl 0 9 _ 1 16 Try.underlying43 info_str14 rfl (by decide) (by decide) (.slice AK i cK) i ((keysM M').map Value.string) rfl (own_still_ KO.out ((Turn.refl _ _).drew.alloc _)) W2.heap.size [.string pk] rfl (Blk.new W2.drew 9 [.string pk]) rfl (fun u hu => by simp at hu; subst hu; rfl) (by omega) (Nat.zero_le _) ?_
        intro A8 c8 w8 ho8 ht8 hp8
        have hE := Lib.hid (key_step14 SP2.out ho8 ht8 hp8)
        have I8 := Lib.hid ((IB.out.drew.alloc (.cells #[.string pk] 9)).turn ht8 HIK.out)
        clear ho8 ht8 hp8
        obtain ⟨k8, z8, _⟩ := hE.out
        have y8 := I8.out.cell 0
        simp only [List.getElem?_cons_zero] at y8
        refine hK.out _ _ y8 (fun hHeld => ?_)
        clear hHeld hK K
        try simp only [List.getElem_toArray, List.getElem_cons_zero, List.getElem_cons_succ, Act.put, List.setIfInBounds_toArray, List.set_cons_zero, List.set_cons_succ]
        refine wpAnyH_take (i := 9) (v := ?_) rfl (by kernel_rfl) (by kernel_rfl) (by kernel_rfl) (fun _ _ _ h => h) (Or.inl ⟨by rfl, ?_⟩) (by assumption) ?_
        rotate_left 1
        · intro w' hSw
          go_simp
          all_goals first | with_reducible rfl | (rw [if_neg (by omega)]; done) | (rw [if_pos (by omega)]; done)
        try simp only [List.getElem_toArray, List.getElem_cons_zero, List.getElem_cons_succ, Act.put, List.setIfInBounds_toArray, List.set_cons_zero, List.set_cons_succ]
        refine wpAnyH_take (i := 10) (v := ?_) rfl (by kernel_rfl) (by kernel_rfl) (by kernel_rfl) (fun _ _ _ h => h) (Or.inl ⟨by rfl, ?_⟩) (by assumption) ?_
        rotate_left 1
        · intro w' hSw
          go_simp
          all_goals first | with_reducible rfl | (rw [if_neg (by omega)]; done) | (rw [if_pos (by omega)]; done)
        try simp only [List.getElem_toArray, List.getElem_cons_zero, List.getElem_cons_succ, Act.put, List.setIfInBounds_toArray, List.set_cons_zero, List.set_cons_succ]
        refine wpAnyH_ready (rs := [11]) (by kernel_rfl) (by simp) ?_
        refine AllReadyH.cons rfl (fun K hK => ?_) AllReadyH.nil
        go_simp
        have I5 := Lib.hid (I8.out.far (p := ⟨w.heap.size + 1, 0, none⟩) (by show wx.heap.size ≠ w.heap.size + 1; omega) (.slice A8 (i + 1) c8))
        have y9 := I5.out.cell 0
        simp only [List.getElem?_cons_zero] at y9
        refine hK.out _ _ y9 (fun hHeld => ?_)
        clear hHeld hK K
        try simp only [List.getElem_toArray, List.getElem_cons_zero, List.getElem_cons_succ, Act.put, List.setIfInBounds_toArray, List.set_cons_zero, List.set_cons_succ]
        refine wpAnyH_done (by kernel_rfl) ?_ _
        refine NoPanic.normal ?_
        obtain ⟨_, _, e3, e4, e5, e6, e7⟩ := hE.out
        obtain ⟨W5, hW5⟩ : ∃ W, w8.setCell ⟨w.heap.size + 1, 0, none⟩ (.slice A8 (i + 1) c8) = W := ⟨_, rfl⟩
        rw [hW5] at e3 e4 e5 e6 I5 y9
        obtain ⟨vk', hvk'⟩ : ∃ u, Value.slice A8 (i + 1) c8 = u := ⟨_, rfl⟩
        rw [hvk'] at e3 e4 e7
        have B5 := Lib.hid e3
        have K5 := Lib.hid e4
        have MP5 := Lib.hid e5
        have T5 := Lib.hid e6
        have P5 := Lib.hid e7
        have TT5 : Hid (Turn (fun _ => False) w W5) := Lib.hid (TT2.out.trans_new e6 (fun k hk h => by have := HFP.out.1 k h; omega))
        have HCL : Hid (∀ X, Turn (fun _ => False) W5 X → Calls Try.prog 120 #[.slice AV m cV] X fun e w' => ∃ v, e = .returned v ∧ (∃ A' c', v = .slice A' m c' ∧ Vr w' (.slice A' m c') pvs ∧ Cw W5.heap.size (.slice A' m c') ∧ Turn (fun _ => False) W5 w')) := Lib.hid (fun X hX => HCL0.out W5 TT5.out X hX)
        have HST : Hid (∀ X, Turn (fun _ => False) W5 X → X.cell? ⟨wx.heap.size, 0, none⟩ = some (.string pk) ∧ X.cell? ⟨wx.heap.size, 1, none⟩ = some (.slice AV m cV) ∧ X.cell? ⟨w.heap.size + 1, 1, none⟩ = some (.map (some w.heap.size))) := Lib.hid (fun X hX => ⟨(I5.out.turn hX (fun h => h)).cell 0, (I5.out.turn hX (fun h => h)).cell 1, (B5.out.turn hX (fun h => h)).cell 1⟩)
        have HS9 : Hid (∀ X Y, Turn (fun _ => False) W5 X → Turn (fun k => k = w.heap.size) X Y → Y.cell? ⟨wx.heap.size, 0, none⟩ = some (.string pk) ∧ Y.cell? ⟨wx.heap.size, 1, none⟩ = some (.slice AV m cV) ∧ Y.cell? ⟨w.heap.size + 1, 1, none⟩ = some (.map (some w.heap.size))) := Lib.hid (fun X Y hX hY => ⟨((I5.out.turn hX (fun h => h)).turn hY (by omega)).cell 0, ((I5.out.turn hX (fun h => h)).turn hY (by omega)).cell 1, ((B5.out.turn hX (fun h => h)).turn hY (by omega)).cell 1⟩)
        have y6 := HST.out W5.drew (Turn.refl _ _).drew
        clear e3 e4 e5 e6 e7 k8 z8 y9 y8 y7 hE
        rw [hW5]
        go_wp2_with fail
        refine wp_region_noPanic ?_
        refine wp_region_held_drew (S := (fun X => X.cell? ⟨wx.heap.size, 0, none⟩ = some (.string pk) ∧ X.cell? ⟨wx.heap.size, 1, none⟩ = some (.slice AV m cV) ∧ X.cell? ⟨w.heap.size + 1, 1, none⟩ = some (.map (some w.heap.size)))) (by kernel_rfl) y6 (fun hHeld => ?_)
        clear hHeld
        refine wpAnyH_take (i := 0) (v := ?_) rfl (by kernel_rfl) (by kernel_rfl) (by kernel_rfl) (fun _ _ _ h => h) (Or.inl ⟨by rfl, ?_⟩) (by assumption) ?_
        rotate_left 1
        · intro w' hSw
          go_simp
          all_goals first | with_reducible rfl | (rw [if_neg (by omega)]; done) | (rw [if_pos (by omega)]; done)
        try simp only [List.getElem_toArray, List.getElem_cons_zero, List.getElem_cons_succ, Act.put, List.setIfInBounds_toArray, List.set_cons_zero, List.set_cons_succ]
        refine wpAnyH_take (i := 1) (v := ?_) rfl (by kernel_rfl) (by kernel_rfl) (by kernel_rfl) (fun _ _ _ h => h) (Or.inl ⟨by rfl, ?_⟩) (by assumption) ?_
        rotate_left 1
        · intro w' hSw
          go_simp
          all_goals first | with_reducible rfl | (rw [if_neg (by omega)]; done) | (rw [if_pos (by omega)]; done)
        try simp only [List.getElem_toArray, List.getElem_cons_zero, List.getElem_cons_succ, Act.put, List.setIfInBounds_toArray, List.set_cons_zero, List.set_cons_succ]
        refine wpAnyH_take (i := 2) (v := ?_) rfl (by kernel_rfl) (by kernel_rfl) (by kernel_rfl) (fun _ _ _ h => h) (Or.inl ⟨by rfl, ?_⟩) (by assumption) ?_
        rotate_left 1
        · intro w' hSw
          go_simp
          all_goals first | with_reducible rfl | (rw [if_neg (by omega)]; done) | (rw [if_pos (by omega)]; done)
        try simp only [List.getElem_toArray, List.getElem_cons_zero, List.getElem_cons_succ, Act.put, List.setIfInBounds_toArray, List.set_cons_zero, List.set_cons_succ]
        refine wpAnyH_take (i := 3) (v := ?_) rfl (by kernel_rfl) (by kernel_rfl) (by kernel_rfl) (fun _ _ _ h => h) (Or.inl ⟨by rfl, ?_⟩) (by assumption) ?_
        rotate_left 1
        · intro w' hSw
          obtain ⟨y1, y2, y3⟩ := hSw
          go_simp
          all_goals first | with_reducible rfl | (rw [if_neg (by omega)]; done) | (rw [if_pos (by omega)]; done)
        try simp only [List.getElem_toArray, List.getElem_cons_zero, List.getElem_cons_succ, Act.put, List.setIfInBounds_toArray, List.set_cons_zero, List.set_cons_succ]
        refine wpAnyH_take (i := 4) (v := ?_) rfl (by kernel_rfl) (by kernel_rfl) (by kernel_rfl) (fun _ _ _ h => h) (Or.inl ⟨by rfl, ?_⟩) (by assumption) ?_
        rotate_left 1
        · intro w' hSw
          go_simp
          all_goals first | with_reducible rfl | (rw [if_neg (by omega)]; done) | (rw [if_pos (by omega)]; done)
        try simp only [List.getElem_toArray, List.getElem_cons_zero, List.getElem_cons_succ, Act.put, List.setIfInBounds_toArray, List.set_cons_zero, List.set_cons_succ]
        refine wpAnyH_take (i := 5) (v := ?_) rfl (by kernel_rfl) (by kernel_rfl) (by kernel_rfl) (fun _ _ _ h => h) (Or.inl ⟨by rfl, ?_⟩) (by assumption) ?_
        rotate_left 1
        · intro w' hSw
          obtain ⟨y1, y2, y3⟩ := hSw
          go_simp
          all_goals first | with_reducible rfl | (rw [if_neg (by omega)]; done) | (rw [if_pos (by omega)]; done)
        try simp only [List.getElem_toArray, List.getElem_cons_zero, List.getElem_cons_succ, Act.put, List.setIfInBounds_toArray, List.set_cons_zero, List.set_cons_succ]
        refine wpAnyH_take (i := 6) (v := ?_) rfl (by kernel_rfl) (by kernel_rfl) (by kernel_rfl) (fun _ _ _ h => h) (Or.inl ⟨by rfl, ?_⟩) (by assumption) ?_
        rotate_left 1
        · intro w' hSw
          go_simp
          all_goals first | with_reducible rfl | (rw [if_neg (by omega)]; done) | (rw [if_pos (by omega)]; done)
        try simp only [List.getElem_toArray, List.getElem_cons_zero, List.getElem_cons_succ, Act.put, List.setIfInBounds_toArray, List.set_cons_zero, List.set_cons_succ]
        refine wpAnyH_take (i := 7) (v := ?_) rfl (by kernel_rfl) (by kernel_rfl) (by kernel_rfl) (fun _ _ _ h => h) (Or.inl ⟨by rfl, ?_⟩) (by assumption) ?_
        rotate_left 1
        · intro w' hSw
          obtain ⟨y1, y2, y3⟩ := hSw
          go_simp
          all_goals first | with_reducible rfl | (rw [if_neg (by omega)]; done) | (rw [if_pos (by omega)]; done)
        try simp only [List.getElem_toArray, List.getElem_cons_zero, List.getElem_cons_succ, Act.put, List.setIfInBounds_toArray, List.set_cons_zero, List.set_cons_succ]
        refine wpAnyH_ready (rs := [8]) (by kernel_rfl) (by simp) ?_
        refine AllReadyH.cons rfl (fun K hK => ?_) AllReadyH.nil
        refine step_call rfl 120 Try.f120 _ _ rfl Try.func120 (by kernel_rfl) (by kernel_rfl) _ _ (HCL.out _ ((Turn.refl _ _).drew)) (by go_simp) ?_
        rintro v7 w7 ⟨A7, c7, rfl, hv7, hw7, ht7⟩
        have V7 := Lib.hid hv7
        have N7 := Lib.hid hw7
        have T7 := Lib.hid ht7
        have y7 := HST.out w7 ht7
        clear hv7 hw7 ht7
        refine hK.out _ _ y7 (fun hHeld => ?_)
        clear hHeld hK K
        try simp only [List.getElem_toArray, List.getElem_cons_zero, List.getElem_cons_succ, Act.put, List.setIfInBounds_toArray, List.set_cons_zero, List.set_cons_succ]
        refine wpAnyH_ready (rs := [9]) (by kernel_rfl) (by simp) ?_
        refine AllReadyH.cons rfl (fun K hK => ?_) AllReadyH.nil
        refine step_update_mp rfl 124 38 Try.underlying124 _ _ _ rfl w.heap.size M'.length (look M') pk (.slice A7 m c7) (by unfold maxLen; omega) rfl (MP5.out.still T7.out) (by unfold maxLen; omega) rfl rfl ?_
        intro w9 hm9 ht9
        have M9 := Lib.hid hm9
        have T9 := Lib.hid ht9
        have y10 := HS9.out w7 w9 T7.out ht9
        clear hm9 ht9
        refine hK.out _ _ y10 (fun hHeld => ?_)
        clear hHeld hK K
        try simp only [List.getElem_toArray, List.getElem_cons_zero, List.getElem_cons_succ, Act.put, List.setIfInBounds_toArray, List.set_cons_zero, List.set_cons_succ]
        refine wpAnyH_done (by kernel_rfl) ?_ _
        refine NoPanic.normal ?_
        go_wp2_with fail
        go_roundw
        case rel => exact ⟨i + 1, _, M' ++ [((⟨pk, pvs⟩ : Itm), Value.slice A7 m c7)], by omega, by simp [hq], HLAST.out W5 w7 w9 A7 c7 vk' B5.out K5.out T5.out P5.out V7.out N7.out T7.out M9.out T9.out⟩
        case measure => simp [intOf, hq]; omega
      · go_simp
        have y7 := (IB.out.drew.alloc (.cells #[.string pk] 9)).cell 0
        simp only [List.getElem?_cons_zero] at y7
        refine hK.out _ _ y7 (fun hHeld => ?_)
        clear hHeld hK K
        try simp only [List.getElem_toArray, List.getElem_cons_zero, List.getElem_cons_succ, Act.put, List.setIfInBounds_toArray, List.set_cons_zero, List.set_cons_succ]
        refine wpAnyH_ready (rs := [4]) (by kernel_rfl) (by simp) ?_
        refine AllReadyH.cons rfl (fun K hK => ?_) AllReadyH.nil
        go_simp
        refine hK.out _ _ (by assumption) (fun hHeld => ?_)
        clear hHeld hK K
        try simp only [List.getElem_toArray, List.getElem_cons_zero, List.getElem_cons_succ, Act.put, List.setIfInBounds_toArray, List.set_cons_zero, List.set_cons_succ]
        refine wpAnyH_ready (rs := [8]) (by kernel_rfl) (by simp) ?_
        refine AllReadyH.cons rfl (fun K hK => ?_) AllReadyH.nil
        refine step_app14 rfl _ _ 43 rfl 0 9 _ 1 16 Try.underlying43 info_str14 rfl (by decide) (by decide) (.slice AK i cK) i ((keysM M').map Value.string) rfl (own_still_ KO.out ((Turn.refl _ _).drew.alloc _)) W2.heap.size [.string pk] rfl (Blk.new W2.drew 9 [.string pk]) rfl (fun u hu => by simp at hu; subst hu; rfl) (by omega) (Nat.zero_le _) ?_
        intro A8 c8 w8 ho8 ht8 hp8
        have hE := Lib.hid (key_step14 SP2.out ho8 ht8 hp8)
        have I8 := Lib.hid ((IB.out.drew.alloc (.cells #[.string pk] 9)).turn ht8 HIK.out)
        clear ho8 ht8 hp8
        obtain ⟨k8, z8, _⟩ := hE.out
        have y8 := I8.out.cell 0
        simp only [List.getElem?_cons_zero] at y8
        refine hK.out _ _ y8 (fun hHeld => ?_)
        clear hHeld hK K
        try simp only [List.getElem_toArray, List.getElem_cons_zero, List.getElem_cons_succ, Act.put, List.setIfInBounds_toArray, List.set_cons_zero, List.set_cons_succ]
        refine wpAnyH_take (i := 9) (v := ?_) rfl (by kernel_rfl) (by kernel_rfl) (by kernel_rfl) (fun _ _ _ h => h) (Or.inl ⟨by rfl, ?_⟩) (by assumption) ?_
        rotate_left 1
        · intro w' hSw
          go_simp
          all_goals first | with_reducible rfl | (rw [if_neg (by omega)]; done) | (rw [if_pos (by omega)]; done)
        try simp only [List.getElem_toArray, List.getElem_cons_zero, List.getElem_cons_succ, Act.put, List.setIfInBounds_toArray, List.set_cons_zero, List.set_cons_succ]
        refine wpAnyH_take (i := 10) (v := ?_) rfl (by kernel_rfl) (by kernel_rfl) (by kernel_rfl) (fun _ _ _ h => h) (Or.inl ⟨by rfl, ?_⟩) (by assumption) ?_
        rotate_left 1
        · intro w' hSw
          go_simp
          all_goals first | with_reducible rfl | (rw [if_neg (by omega)]; done) | (rw [if_pos (by omega)]; done)
        try simp only [List.getElem_toArray, List.getElem_cons_zero, List.getElem_cons_succ, Act.put, List.setIfInBounds_toArray, List.set_cons_zero, List.set_cons_succ]
        refine wpAnyH_ready (rs := [11]) (by kernel_rfl) (by simp) ?_
        refine AllReadyH.cons rfl (fun K hK => ?_) AllReadyH.nil
        go_simp
        have I5 := Lib.hid (I8.out.far (p := ⟨w.heap.size + 1, 0, none⟩) (by show wx.heap.size ≠ w.heap.size + 1; omega) (.slice A8 (i + 1) c8))
        have y9 := I5.out.cell 0
        simp only [List.getElem?_cons_zero] at y9
        refine hK.out _ _ y9 (fun hHeld => ?_)
        clear hHeld hK K
        try simp only [List.getElem_toArray, List.getElem_cons_zero, List.getElem_cons_succ, Act.put, List.setIfInBounds_toArray, List.set_cons_zero, List.set_cons_succ]
        refine wpAnyH_done (by kernel_rfl) ?_ _
        refine NoPanic.normal ?_
        obtain ⟨_, _, e3, e4, e5, e6, e7⟩ := hE.out
        obtain ⟨W5, hW5⟩ : ∃ W, w8.setCell ⟨w.heap.size + 1, 0, none⟩ (.slice A8 (i + 1) c8) = W := ⟨_, rfl⟩
        rw [hW5] at e3 e4 e5 e6 I5 y9
        obtain ⟨vk', hvk'⟩ : ∃ u, Value.slice A8 (i + 1) c8 = u := ⟨_, rfl⟩
        rw [hvk'] at e3 e4 e7
        have B5 := Lib.hid e3
        have K5 := Lib.hid e4
        have MP5 := Lib.hid e5
        have T5 := Lib.hid e6
        have P5 := Lib.hid e7
        have TT5 : Hid (Turn (fun _ => False) w W5) := Lib.hid (TT2.out.trans_new e6 (fun k hk h => by have := HFP.out.1 k h; omega))
        have HCL : Hid (∀ X, Turn (fun _ => False) W5 X → Calls Try.prog 120 #[.slice AV m cV] X fun e w' => ∃ v, e = .returned v ∧ (∃ A' c', v = .slice A' m c' ∧ Vr w' (.slice A' m c') pvs ∧ Cw W5.heap.size (.slice A' m c') ∧ Turn (fun _ => False) W5 w')) := Lib.hid (fun X hX => HCL0.out W5 TT5.out X hX)
        have HST : Hid (∀ X, Turn (fun _ => False) W5 X → X.cell? ⟨wx.heap.size, 0, none⟩ = some (.string pk) ∧ X.cell? ⟨wx.heap.size, 1, none⟩ = some (.slice AV m cV) ∧ X.cell? ⟨w.heap.size + 1, 1, none⟩ = some (.map (some w.heap.size))) := Lib.hid (fun X hX => ⟨(I5.out.turn hX (fun h => h)).cell 0, (I5.out.turn hX (fun h => h)).cell 1, (B5.out.turn hX (fun h => h)).cell 1⟩)
        have HS9 : Hid (∀ X Y, Turn (fun _ => False) W5 X → Turn (fun k => k = w.heap.size) X Y → Y.cell? ⟨wx.heap.size, 0, none⟩ = some (.string pk) ∧ Y.cell? ⟨wx.heap.size, 1, none⟩ = some (.slice AV m cV) ∧ Y.cell? ⟨w.heap.size + 1, 1, none⟩ = some (.map (some w.heap.size))) := Lib.hid (fun X Y hX hY => ⟨((I5.out.turn hX (fun h => h)).turn hY (by omega)).cell 0, ((I5.out.turn hX (fun h => h)).turn hY (by omega)).cell 1, ((B5.out.turn hX (fun h => h)).turn hY (by omega)).cell 1⟩)
        have y6 := HST.out W5.drew (Turn.refl _ _).drew
        clear e3 e4 e5 e6 e7 k8 z8 y9 y8 y7 hE
        rw [hW5]
        go_wp2_with fail
        refine wp_region_noPanic ?_
        refine wp_region_held_drew (S := (fun X => X.cell? ⟨wx.heap.size, 0, none⟩ = some (.string pk) ∧ X.cell? ⟨wx.heap.size, 1, none⟩ = some (.slice AV m cV) ∧ X.cell? ⟨w.heap.size + 1, 1, none⟩ = some (.map (some w.heap.size)))) (by kernel_rfl) y6 (fun hHeld => ?_)
        clear hHeld
        refine wpAnyH_take (i := 0) (v := ?_) rfl (by kernel_rfl) (by kernel_rfl) (by kernel_rfl) (fun _ _ _ h => h) (Or.inl ⟨by rfl, ?_⟩) (by assumption) ?_
        rotate_left 1
        · intro w' hSw
          go_simp
          all_goals first | with_reducible rfl | (rw [if_neg (by omega)]; done) | (rw [if_pos (by omega)]; done)
        try simp only [List.getElem_toArray, List.getElem_cons_zero, List.getElem_cons_succ, Act.put, List.setIfInBounds_toArray, List.set_cons_zero, List.set_cons_succ]
        refine wpAnyH_take (i := 1) (v := ?_) rfl (by kernel_rfl) (by kernel_rfl) (by kernel_rfl) (fun _ _ _ h => h) (Or.inl ⟨by rfl, ?_⟩) (by assumption) ?_
        rotate_left 1
        · intro w' hSw
          go_simp
          all_goals first | with_reducible rfl | (rw [if_neg (by omega)]; done) | (rw [if_pos (by omega)]; done)
        try simp only [List.getElem_toArray, List.getElem_cons_zero, List.getElem_cons_succ, Act.put, List.setIfInBounds_toArray, List.set_cons_zero, List.set_cons_succ]
        refine wpAnyH_take (i := 2) (v := ?_) rfl (by kernel_rfl) (by kernel_rfl) (by kernel_rfl) (fun _ _ _ h => h) (Or.inl ⟨by rfl, ?_⟩) (by assumption) ?_
        rotate_left 1
        · intro w' hSw
          go_simp
          all_goals first | with_reducible rfl | (rw [if_neg (by omega)]; done) | (rw [if_pos (by omega)]; done)
        try simp only [List.getElem_toArray, List.getElem_cons_zero, List.getElem_cons_succ, Act.put, List.setIfInBounds_toArray, List.set_cons_zero, List.set_cons_succ]
        refine wpAnyH_take (i := 3) (v := ?_) rfl (by kernel_rfl) (by kernel_rfl) (by kernel_rfl) (fun _ _ _ h => h) (Or.inl ⟨by rfl, ?_⟩) (by assumption) ?_
        rotate_left 1
        · intro w' hSw
          obtain ⟨y1, y2, y3⟩ := hSw
          go_simp
          all_goals first | with_reducible rfl | (rw [if_neg (by omega)]; done) | (rw [if_pos (by omega)]; done)
        try simp only [List.getElem_toArray, List.getElem_cons_zero, List.getElem_cons_succ, Act.put, List.setIfInBounds_toArray, List.set_cons_zero, List.set_cons_succ]
        refine wpAnyH_take (i := 4) (v := ?_) rfl (by kernel_rfl) (by kernel_rfl) (by kernel_rfl) (fun _ _ _ h => h) (Or.inl ⟨by rfl, ?_⟩) (by assumption) ?_
        rotate_left 1
        · intro w' hSw
          go_simp
          all_goals first | with_reducible rfl | (rw [if_neg (by omega)]; done) | (rw [if_pos (by omega)]; done)
        try simp only [List.getElem_toArray, List.getElem_cons_zero, List.getElem_cons_succ, Act.put, List.setIfInBounds_toArray, List.set_cons_zero, List.set_cons_succ]
        refine wpAnyH_take (i := 5) (v := ?_) rfl (by kernel_rfl) (by kernel_rfl) (by kernel_rfl) (fun _ _ _ h => h) (Or.inl ⟨by rfl, ?_⟩) (by assumption) ?_
        rotate_left 1
        · intro w' hSw
          obtain ⟨y1, y2, y3⟩ := hSw
          go_simp
          all_goals first | with_reducible rfl | (rw [if_neg (by omega)]; done) | (rw [if_pos (by omega)]; done)
        try simp only [List.getElem_toArray, List.getElem_cons_zero, List.getElem_cons_succ, Act.put, List.setIfInBounds_toArray, List.set_cons_zero, List.set_cons_succ]
        refine wpAnyH_take (i := 6) (v := ?_) rfl (by kernel_rfl) (by kernel_rfl) (by kernel_rfl) (fun _ _ _ h => h) (Or.inl ⟨by rfl, ?_⟩) (by assumption) ?_
        rotate_left 1
        · intro w' hSw
          go_simp
          all_goals first | with_reducible rfl | (rw [if_neg (by omega)]; done) | (rw [if_pos (by omega)]; done)
        try simp only [List.getElem_toArray, List.getElem_cons_zero, List.getElem_cons_succ, Act.put, List.setIfInBounds_toArray, List.set_cons_zero, List.set_cons_succ]
        refine wpAnyH_take (i := 7) (v := ?_) rfl (by kernel_rfl) (by kernel_rfl) (by kernel_rfl) (fun _ _ _ h => h) (Or.inl ⟨by rfl, ?_⟩) (by assumption) ?_
        rotate_left 1
        · intro w' hSw
          obtain ⟨y1, y2, y3⟩ := hSw
          go_simp
          all_goals first | with_reducible rfl | (rw [if_neg (by omega)]; done) | (rw [if_pos (by omega)]; done)
        try simp only [List.getElem_toArray, List.getElem_cons_zero, List.getElem_cons_succ, Act.put, List.setIfInBounds_toArray, List.set_cons_zero, List.set_cons_succ]
        refine wpAnyH_ready (rs := [8]) (by kernel_rfl) (by simp) ?_
        refine AllReadyH.cons rfl (fun K hK => ?_) AllReadyH.nil
        refine step_call rfl 120 Try.f120 _ _ rfl Try.func120 (by kernel_rfl) (by kernel_rfl) _ _ (HCL.out _ ((Turn.refl _ _).drew)) (by go_simp) ?_
        rintro v7 w7 ⟨A7, c7, rfl, hv7, hw7, ht7⟩
        have V7 := Lib.hid hv7
        have N7 := Lib.hid hw7
        have T7 := Lib.hid ht7
        have y7 := HST.out w7 ht7
        clear hv7 hw7 ht7
        refine hK.out _ _ y7 (fun hHeld => ?_)
        clear hHeld hK K
        try simp only [List.getElem_toArray, List.getElem_cons_zero, List.getElem_cons_succ, Act.put, List.setIfInBounds_toArray, List.set_cons_zero, List.set_cons_succ]
        refine wpAnyH_ready (rs := [9]) (by kernel_rfl) (by simp) ?_
        refine AllReadyH.cons rfl (fun K hK => ?_) AllReadyH.nil
        refine step_update_mp rfl 124 38 Try.underlying124 _ _ _ rfl w.heap.size M'.length (look M') pk (.slice A7 m c7) (by unfold maxLen; omega) rfl (MP5.out.still T7.out) (by unfold maxLen; omega) rfl rfl ?_
        intro w9 hm9 ht9
        have M9 := Lib.hid hm9
        have T9 := Lib.hid ht9
        have y10 := HS9.out w7 w9 T7.out ht9
        clear hm9 ht9
        refine hK.out _ _ y10 (fun hHeld => ?_)
        clear hHeld hK K
        try simp only [List.getElem_toArray, List.getElem_cons_zero, List.getElem_cons_succ, Act.put, List.setIfInBounds_toArray, List.set_cons_zero, List.set_cons_succ]
        refine wpAnyH_done (by kernel_rfl) ?_ _
        refine NoPanic.normal ?_
        go_wp2_with fail
        go_roundw
        case rel => exact ⟨i + 1, _, M' ++ [((⟨pk, pvs⟩ : Itm), Value.slice A7 m c7)], by omega, by simp [hq], HLAST.out W5 w7 w9 A7 c7 vk' B5.out K5.out T5.out P5.out V7.out N7.out T7.out M9.out T9.out⟩
        case measure => simp [intOf, hq]; omega
      -- region end
    · obtain rfl : i = n := by omega
      have HALL : Hid (M'.map (fun p : Itm × Value => p.1) = M.map (fun p : Itm × Value => p.1)) := Lib.hid (by rw [HML.out, ← HN.out, List.take_length])
      have HSP := Lib.hid hsp
      have TT := Lib.hid ht
      clear hsp ht
      go_wp2_with fail
      go_ret
      exact ⟨_, _, _, _, rfl, HSP.out, HALL.out, HFP.out, TT.out⟩
end Go.Proofs.Ytjkfgbmlhglnfaa
/- Layer 14: the program's New, Copy, fits. (mkSpY.py) -/
namespace Go.Proofs.Ytjkfgbmlhglnfaa
open Go.RowKit Go.Shelf
set_option linter.unusedVariables false
set_option linter.unusedSimpArgs false
set_option maxRecDepth 100000

theorem ix_nil (w : World) : Ix w (.slice none 0 0) [] := ⟨none, 0, rfl, by simp, (fun h => by simp at h), fun p hp => by cases hp⟩
theorem bm_nil (N : Nat) : Bm N [] := ⟨Nat.zero_le _, fun p hp => by cases hp⟩
theorem bm_map {N : Nat} {M M' : List (Itm × Value)} (h : Bm N M) (he : M'.map (·.1) = M.map (·.1)) : Bm N M' := by
  refine ⟨by have := congrArg List.length he; rw [List.length_map, List.length_map] at this; rw [this]; exact h.1, fun p hp => ?_⟩
  have h1 : p.1 ∈ M'.map (·.1) := List.mem_map.2 ⟨p, hp, rfl⟩
  rw [he] at h1
  obtain ⟨p', hp', e⟩ := List.mem_map.1 h1
  rw [← e]
  exact h.2 p' hp'
theorem keys_map {M M' : List (Itm × Value)} (he : M'.map (·.1) = M.map (·.1)) : keysM M' = keysM M := by
  have : (M'.map (fun p : Itm × Value => p.1)).map (·.k) = (M.map (fun p : Itm × Value => p.1)).map (·.k) := by rw [he]
  rw [List.map_map, List.map_map] at this
  exact this
theorem vs_map {M M' : List (Itm × Value)} (he : M'.map (·.1) = M.map (·.1)) (h : ∀ p ∈ M, p.1.vs ≠ []) : ∀ p ∈ M', p.1.vs ≠ [] := fun p hp => by
  have h1 : p.1 ∈ M'.map (·.1) := List.mem_map.2 ⟨p, hp, rfl⟩
  rw [he] at h1
  obtain ⟨p', hp', e⟩ := List.mem_map.1 h1
  rw [← e]
  exact h p' hp'
theorem lens14 (x : Itm) : True := trivial
end Go.Proofs.Ytjkfgbmlhglnfaa
