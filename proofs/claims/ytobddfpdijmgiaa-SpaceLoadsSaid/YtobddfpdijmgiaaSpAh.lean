/- Layer 14: the program's Vacuum: its state in the loop. -/
import Derived.Test.YtobddfpdijmgiaaSpAe
namespace Go.Proofs.Ytobddfpdijmgiaa
open Go.RowKit Go.Shelf
set_option linter.unusedVariables false
set_option linter.unusedSimpArgs false
set_option maxRecDepth 100000

theorem wpListIn_update_mp {l n : Nat} {w : World} {ops : Array Oper} {rest : List Oper} {o : Oper} {a : Act} {Q : Exit → Act → World → Prop} (hg : o.guard = none) (m x v : Operand) (hop : o.op = Op.mapUpdate 114 m x v)
    (g cnt : Nat) (F : List UInt8 → Option Value) (s : ByteArray) (u : Value) (hs : s.size ≤ maxLen) (hm : a.eval m = .map (some g)) (h : Mp w g cnt F) (hn : cnt < maxLen) (hx : a.eval x = .string s) (hv : a.eval v = u)
    (hK : ∀ w', Mp w' g (if (F s.toList).isSome then cnt else cnt + 1) (upd F s.toList (some u)) → Turn (fun k => k = g) w w' → wpListIn (Fence.wide.inRound l) n Try.prog ops Q rest (a.put o.dst undef) w') : wpListIn (Fence.wide.inRound l) n Try.prog ops Q (o :: rest) a w := by
  refine wpListIn_plain hg fun K' hK' => ?_
  obtain ⟨w', hr, h1, h2⟩ := h.store Try.underlying114 hn s hs u
  refine oper_round l n (by rw [hop]; intro c hc; cases hc) ?_
  unfold Oper.wp
  simp [execOp, hop, hm, hx, hv, hr, Result.andThen]
  exact hK' _ _ (hK w' h1 h2)
theorem wpListIn_delete_mp {l n : Nat} {w : World} {ops : Array Oper} {rest : List Oper} {o : Oper} {a : Act} {Q : Exit → Act → World → Prop} (hg : o.guard = none) (m x : Operand) (hop : o.op = Op.call { callee := Callee.builtin Builtin.delete, args := #[m, x], argTypes := #[114, 9] })
    (g cnt : Nat) (F : List UInt8 → Option Value) (s : ByteArray) (hs : s.size ≤ maxLen) (hm : a.eval m = .map (some g)) (h : Mp w g cnt F) (hx : a.eval x = .string s)
    (hK : ∀ w', Mp w' g (if (F s.toList).isSome then cnt - 1 else cnt) (upd F s.toList none) → Turn (fun k => k = g) w w' → wpListIn (Fence.wide.inRound l) n Try.prog ops Q rest (a.put o.dst (.tuple #[])) w') : wpListIn (Fence.wide.inRound l) n Try.prog ops Q (o :: rest) a w := by
  refine wpListIn_plain hg fun K' hK' => ?_
  obtain ⟨w', hr, h1, h2⟩ := h.drop Try.underlying114 s hs o.type
  refine oper_round l n (by rw [hop]; intro c hc; cases hc) ?_
  unfold Oper.wp
  simp [execOp, hop, resolve, invoke, builtin, hm, hx, hr, Result.andThen]
  exact hK' _ _ (hK w' h1 h2)
theorem wpListIn_app14p {l n : Nat} {w : World} {ops : Array Oper} {rest : List Oper} {o : Oper} {a : Act} {Q : Exit → Act → World → Prop}
    (hg : o.guard = none) (s x : Operand) (t : TypeId) (hop : o.op = Op.call { callee := Callee.builtin Builtin.append, args := #[s, x], argTypes := #[t, t] })
    (B T : Nat) (z : Value) (size bytes : Nat) (hu : Try.prog.underlying t = some (.slice T)) (hi : (Try.prog.info? T).map (fun i => (i.zero, i.size, i.bytes)) = some (some z, size, bytes)) (hz : z.cells.size = size) (hp : 0 < size) (hby : bytes ≤ 1000)
    (v : Value) (k : Nat) (xs : List Value) (hs : a.eval s = v) (hown : w.ownsRow B T size v k xs) (b : Nat) (news : List Value) (hx : a.eval x = .slice (some ⟨b, 0, none⟩) 1 1) (hb : Blk w b T news) (hl : news.length = size) (h1c : ∀ u ∈ news, u.oneCell' = true) (hk : k ≤ 1000000) (hB : B ≤ w.heap.size)
    (hK : ∀ A' c' w', w'.ownsRow B T size (.slice A' (k + 1) c') (k + 1) (xs ++ news) → Turn (fun j => v.ownBlock = some j) w w' → ((Value.slice A' (k + 1) c').ownBlock = v.ownBlock ∨ (Value.slice A' (k + 1) c').ownBlock = some w.heap.size) → wpListIn (Fence.wide.inRound l) n Try.prog ops Q rest (a.put o.dst (.slice A' (k + 1) c')) w') :
    wpListIn (Fence.wide.inRound l) n Try.prog ops Q (o :: rest) a w := by
  refine wpListIn_plain hg fun K' hK' => ?_
  obtain ⟨i0, hi0, hz0, hs0, hb0⟩ := parts14 hi
  obtain ⟨v', w', hrun, h1, h2, h3⟩ := run_app_rc (P := Try.prog) (w := w) B t o.type T i0 z size bytes hu hi0 hz0 hs0 hb0 hz hp v k xs hown (some ⟨b, 0, none⟩) 1 1 news (by omega) hb.rc h1c (by unfold maxLen; omega) (Nat.le_trans (Nat.mul_le_mul (show k + 1 ≤ 1000001 from by omega) hby) (by decide)) hB
  obtain ⟨A', c', rfl⟩ := own_slice_ h1
  refine oper_round l n (by rw [hop]; intro c hc; cases hc) ?_
  unfold Oper.wp execOp
  simp only [hop, resolve, invoke, builtin, Sem.run_bind, Sem.run_pure, Result.andThen_ok, List.map_toArray, List.map_cons, List.map_nil, hs, hx, hrun]
  exact hK' _ _ (hK A' c' w' h1 h2 h3)
/-- What holds behind i keys. -/
structure Vs14 (W0 : World) (q g rk : Nat) (vk : Value) (M : List (Itm × Value)) (m : Int) (i : Nat) (v : Value) (Ms : List (Itm × Value)) (X : World) : Prop where
  box : Blk X rk 113 [v]
  keys : X.ownsRow W0.heap.size 9 1 v Ms.length ((keysM Ms).map Value.string)
  items : Ms.map (fun p : Itm × Value => p.1) = vcm ((M.take i).map (fun p : Itm × Value => p.1)) m
  map : Mp X g (Ms ++ M.drop i).length (look (Ms ++ M.drop i))
  ord : risK (keysM (Ms ++ M.drop i))
  vers : ∀ p ∈ Ms, VrF (fun k => k = rk ∨ Sw q vk g k ∨ v.ownBlock = some k) X p.2 p.1.vs ∧ Cv p.2 ∧ p.1.vs ≠ []
  turn : Turn (fun k => k = g ∨ k = rk) W0 X
theorem vs_from14 {W0 X Y : World} {q g rk : Nat} {vk v : Value} {M Ms : List (Itm × Value)} {m : Int} {i : Nat} {row : Option Nat} (h : Vs14 W0 q g rk vk M m i v Ms X) (hgl : g < W0.heap.size) (hg : X.grownBy Y row) (hr : ∀ k, row = some k → W0.heap.size ≤ k ∧ ∃ o : Obj, X.heap[k]? = some o ∧ o.isCells = false) : Vs14 W0 q g rk vk M m i v Ms Y where
  box := blk_from14 h.box hg (fun k e => (hr k e).2)
  keys := own_grown14 h.keys hg (fun k e => (hr k e).2)
  items := h.items
  map := h.map.turn (grown_turn14 hg) (fun e => by have := (hr g e).1; omega)
  ord := h.ord
  vers p hp := ⟨⟨vr_grown14 (h.vers p hp).1.1 hg (fun k e => (hr k e).2), (h.vers p hp).1.2⟩, (h.vers p hp).2⟩
  turn := h.turn.trans_new (grown_turn14 hg) (fun k hk e => by have := (hr k e).1; omega)
theorem vs_still14 {W0 X Y : World} {q g rk : Nat} {vk v : Value} {M Ms : List (Itm × Value)} {m : Int} {i : Nat} (h : Vs14 W0 q g rk vk M m i v Ms X) (ht : Turn (fun _ => False) X Y) : Vs14 W0 q g rk vk M m i v Ms Y where
  box := h.box.turn ht (fun h => h)
  keys := own_still_ h.keys ht
  items := h.items
  map := h.map.still ht
  ord := h.ord
  vers p hp := ⟨⟨(h.vers p hp).1.1.still ht, (h.vers p hp).1.2⟩, (h.vers p hp).2⟩
  turn := h.turn.trans (ht.mono (fun k _ h => h.elim))
theorem ris_mid {A B : List (Itm × Value)} {p r : Itm × Value} (h : risK (keysM (A ++ p :: B))) (hk : r.1.k = p.1.k) : risK (keysM (A ++ r :: B)) := by
  have e : keysM (A ++ r :: B) = keysM (A ++ p :: B) := by simp [keysM, hk]
  rw [e]
  exact h
theorem ris_del {A B : List (Itm × Value)} {p : Itm × Value} (h : risK (keysM (A ++ p :: B))) : risK (keysM (A ++ B)) := by
  unfold risK keysM at *
  refine h.sublist (List.Sublist.map _ ?_)
  exact (List.Sublist.refl A).append (List.sublist_cons_self p B)
theorem mid_ne {A B : List (Itm × Value)} {p : Itm × Value} (h : risK (keysM (A ++ p :: B))) : ∀ r ∈ A ++ B, r.1.k.toList ≠ p.1.k.toList := fun r hr => by
  unfold risK keysM at h
  rw [List.map_append, List.map_cons, List.pairwise_append, List.pairwise_cons] at h
  rcases List.mem_append.1 hr with hr | hr
  · exact lt14_ne (h.2.2 _ (List.mem_map.2 ⟨r, hr, rfl⟩) _ (by simp))
  · exact fun e => lt14_ne (h.2.1.1 _ (List.mem_map.2 ⟨r, hr, rfl⟩)) e.symm
theorem vcm_take {M : List (Itm × Value)} {i : Nat} {p : Itm × Value} (h : M[i]? = some p) (m : Int) : vcm ((M.take (i + 1)).map (fun p : Itm × Value => p.1)) m = vcm ((M.take i).map (fun p : Itm × Value => p.1)) m ++ (if (vac13 p.1.vs m).isEmpty then [] else [⟨p.1.k, vac13 p.1.vs m⟩]) := vcm_next h m
/-- Behind a key that goes. -/
theorem vs_gone14 {W0 X X7 X9 : World} {q g rk : Nat} {vk v : Value} {M Ms : List (Itm × Value)} {m : Int} {i : Nat} {p : Itm × Value} (h : Vs14 W0 q g rk vk M m i v Ms X) (hp : M[i]? = some p) (he : vac13 p.1.vs m = []) (t7 : Turn (fun _ => False) X X7)
    (hm : Mp X9 g (if (look (Ms ++ M.drop i) p.1.k.toList).isSome then (Ms ++ M.drop i).length - 1 else (Ms ++ M.drop i).length) (upd (look (Ms ++ M.drop i)) p.1.k.toList none)) (t9 : Turn (fun k => k = g) X7 X9) (hrg : rk ≠ g) (hgl : g < W0.heap.size) :
    Vs14 W0 q g rk vk M m (i + 1) v Ms X9 ∧ KeepsFrom W0.heap.size X X9 := by
  have hd : M.drop i = p :: M.drop (i + 1) := by
    have hl : i < M.length := by
      rcases Nat.lt_or_ge i M.length with h1 | h1
      · exact h1
      · rw [List.getElem?_eq_none h1] at hp; cases hp
    rw [List.drop_eq_getElem_cons hl]
    rw [List.getElem?_eq_getElem hl] at hp
    injection hp with hp
    rw [hp]
  have h7 := vs_still14 h t7
  have hord := h.ord
  rw [hd] at hm hord
  have hne := mid_ne hord
  have TT : Turn (fun k => k = g) X X9 := (t7.mono (fun k _ h => h.elim)).trans t9
  refine ⟨⟨h7.box.turn t9 hrg, ?_, ?_, ?_, ris_del hord, fun r hr => ⟨⟨(h7.vers r hr).1.1.turn t9 (fun hh b hb e => (h7.vers r hr).1.2 hh b hb (.inr (.inl (.inr (.inl e))))), (h7.vers r hr).1.2⟩, (h7.vers r hr).2⟩, h7.turn.trans (t9.mono (fun k _ e => .inl e))⟩, ⟨TT.size, fun k o hk ho hc => (TT.block k (Array.getElem?_eq_some_iff.1 ho).1 (fun e => by omega)).trans ho⟩⟩
  · obtain ⟨hl, ⟨e, h0⟩ | ⟨b, cap, cur, e, hB, hh, hrest⟩⟩ := h7.keys
    · exact ⟨hl, .inl ⟨e, h0⟩⟩
    · exact ⟨hl, .inr ⟨b, cap, cur, e, hB, (t9.block b (Array.getElem?_eq_some_iff.1 hh).1 (fun e => by omega)).trans hh, hrest⟩⟩
  · rw [vcm_take hp, he, h.items]
    simp
  · rw [look_del (k0 := p.1.k.toList) hord (ris_del hord) (fun r hr => ⟨by
      rcases List.mem_append.1 hr with hr | hr
      · exact List.mem_append_left _ hr
      · exact List.mem_append_right _ (List.mem_cons_of_mem _ hr), hne r hr⟩) (fun r hr => by
      rcases List.mem_append.1 hr with hr | hr
      · exact .inr (List.mem_append_left _ hr)
      · rcases List.mem_cons.1 hr with rfl | hr
        · exact .inl rfl
        · exact .inr (List.mem_append_right _ hr))]
    have hs : (look (Ms ++ p :: M.drop (i + 1)) p.1.k.toList).isSome = true := by rw [ris_look hord (by simp)]; rfl
    rw [hs] at hm
    have e2 : (Ms ++ p :: M.drop (i + 1)).length - 1 = (Ms ++ M.drop (i + 1)).length := by simp
    rw [if_pos rfl, e2] at hm
    exact hm
/-- Behind a key that stays. -/
theorem vs_kept14 {W0 X X7 X8 X9 : World} {q g rk n c c9 : Nat} {vk u : Value} {A A9 : Option Addr} {M Ms : List (Itm × Value)} {m : Int} {i : Nat} {p : Itm × Value} {o : Obj} (h : Vs14 W0 q g rk vk M m i (.slice A n c) Ms X) (hn : Ms.length = n) (hp : M[i]? = some p) (he : vac13 p.1.vs m ≠ []) (t7 : Turn (fun _ => False) X X7)
    (hv : Vr X7 u (vac13 p.1.vs m)) (hw : Cw X.heap.size u)
    (hm : Mp X8 g (if (look (Ms ++ M.drop i) p.1.k.toList).isSome then (Ms ++ M.drop i).length else (Ms ++ M.drop i).length + 1) (upd (look (Ms ++ M.drop i)) p.1.k.toList (some u))) (t8 : Turn (fun k => k = g) X7 X8)
    (h9 : X9.ownsRow W0.heap.size 9 1 (.slice A9 (n + 1) c9) (n + 1) ((keysM Ms).map Value.string ++ [.string p.1.k])) (t9 : Turn (fun j => (Value.slice A n c).ownBlock = some j) (X8.alloc o) X9)
    (hpl : (Value.slice A9 (n + 1) c9).ownBlock = (Value.slice A n c).ownBlock ∨ (Value.slice A9 (n + 1) c9).ownBlock = some (X8.alloc o).heap.size)
    (hrg : rk ≠ g) (hgl : g < W0.heap.size) (hrl : rk < W0.heap.size) (hsw : ∀ k, Sw q vk g k → k < W0.heap.size) :
    X9.cell? ⟨rk, 0, none⟩ = some (.slice A n c) ∧ X9.frozen? ⟨rk, 0, none⟩ = false ∧ Vs14 W0 q g rk vk M m (i + 1) (.slice A9 (n + 1) c9) (Ms ++ [((⟨p.1.k, vac13 p.1.vs m⟩ : Itm), u)]) (X9.setCell ⟨rk, 0, none⟩ (.slice A9 (n + 1) c9)) ∧ KeepsFrom W0.heap.size X (X9.setCell ⟨rk, 0, none⟩ (.slice A9 (n + 1) c9)) := by
  have hd : M.drop i = p :: M.drop (i + 1) := by
    have hl : i < M.length := by
      rcases Nat.lt_or_ge i M.length with h1 | h1
      · exact h1
      · rw [List.getElem?_eq_none h1] at hp; cases hp
    rw [List.drop_eq_getElem_cons hl]
    rw [List.getElem?_eq_getElem hl] at hp
    injection hp with hp
    rw [hp]
  have h7 := vs_still14 h t7
  have hord := h.ord
  rw [hd] at hm hord
  have hown := own_ge9 h.keys
  have hX0 := h.turn.size
  have hX7 := t7.size
  have hX8 := t8.size
  have hal : (X8.alloc o).heap.size = X8.heap.size + 1 := World.size_alloc _ _
  have hog : ¬ (Value.slice A n c).ownBlock = some g := fun e => by have := (hown g e).1; omega
  have hor : ¬ (Value.slice A n c).ownBlock = some rk := fun e => by have := (hown rk e).1; omega
  have T79 : Turn (fun k => k = g ∨ (Value.slice A n c).ownBlock = some k) X7 X9 := ((t8.mono (fun k _ e => .inl e)).alloc o).trans (t9.mono (fun k _ e => .inr e))
  have b9 := h7.box.turn T79 (fun e => e.elim hrg hor)
  have TS : Turn (fun k => k = rk) X9 (X9.setCell ⟨rk, 0, none⟩ (.slice A9 (n + 1) c9)) := (Turn.refl (fun k => k = rk) X9).setCell (p := ⟨rk, 0, none⟩) (.inl rfl) _
  have T7S : Turn (fun k => (k = g ∨ (Value.slice A n c).ownBlock = some k) ∨ k = rk) X7 (X9.setCell ⟨rk, 0, none⟩ (.slice A9 (n + 1) c9)) := (T79.mono (fun k _ e => .inl e)).trans_new TS (fun k _ e => .inr e)
  have TXS : Turn (fun k => (k = g ∨ (Value.slice A n c).ownBlock = some k) ∨ k = rk) X (X9.setCell ⟨rk, 0, none⟩ (.slice A9 (n + 1) c9)) := (t7.mono (fun k _ h => h.elim)).trans T7S
  have hnew : ∀ b, vb u = some b → X.heap.size ≤ b ∧ b < X7.heap.size := fun b hb => by
    obtain ⟨b', e1, hlt⟩ := hv.at_ (List.length_pos_iff.2 he)
    rw [hb] at e1
    cases e1
    obtain ⟨A', c', eu, _⟩ := hv
    subst eu
    cases A' with
    | none => cases hb
    | some ad =>
      cases hb
      exact ⟨(hw _ _ _ rfl).2 (List.length_pos_iff.2 he) ad rfl, hlt⟩
  have hv9 : ∀ b, (Value.slice A9 (n + 1) c9).ownBlock = some b → (Value.slice A n c).ownBlock = some b ∨ X8.heap.size + 1 ≤ b := fun b hb => by
    rcases hpl with e | e
    · rw [e] at hb; exact .inl hb
    · rw [e, hal] at hb; injection hb with hb; exact .inr (by omega)
  have hkr : (⟨p.1.k, vac13 p.1.vs m⟩ : Itm).k = p.1.k := rfl
  have hord2 : risK (keysM ((Ms ++ [((⟨p.1.k, vac13 p.1.vs m⟩ : Itm), u)]) ++ M.drop (i + 1))) := by
    rw [List.append_assoc]
    exact ris_mid (r := ((⟨p.1.k, vac13 p.1.vs m⟩ : Itm), u)) hord rfl
  refine ⟨b9.cell 0, b9.free 0, ⟨b9.put 0 _, ?_, ?_, ?_, hord2, fun r hr => ?_, (h7.turn.trans_new T7S (fun k hk e => by
      rcases e with (e | e) | e
      · exact .inl e
      · have := (hown k e).1; omega
      · exact .inr e))⟩, ⟨TXS.size, fun k o hk ho hc => ?_⟩⟩
  · rw [List.length_append, hn, show keysM (Ms ++ [((⟨p.1.k, vac13 p.1.vs m⟩ : Itm), u)]) = keysM Ms ++ [p.1.k] from by simp [keysM], List.map_append]
    obtain ⟨hl, ⟨e, h0⟩ | ⟨b, cap, cur, e, hB, hh, hrest⟩⟩ := h9
    · exact ⟨hl, .inl ⟨e, h0⟩⟩
    · exact ⟨hl, .inr ⟨b, cap, cur, e, hB, (TS.block b (Array.getElem?_eq_some_iff.1 hh).1 (fun e => by omega)).trans hh, hrest⟩⟩
  · rw [vcm_take hp, List.map_append, h.items]
    have : (vac13 p.1.vs m).isEmpty = false := by
      cases hh : vac13 p.1.vs m with
      | nil => exact absurd hh he
      | cons a l => rfl
    rw [this]
    rfl
  · have hs : (look (Ms ++ p :: M.drop (i + 1)) p.1.k.toList).isSome = true := by rw [ris_look hord (by simp)]; rfl
    rw [hs, if_pos rfl] at hm
    have e3 : look ((Ms ++ [((⟨p.1.k, vac13 p.1.vs m⟩ : Itm), u)]) ++ M.drop (i + 1)) = upd (look (Ms ++ p :: M.drop (i + 1))) p.1.k.toList (some u) := by
      refine look_upd (z := ⟨p.1.k, vac13 p.1.vs m⟩) (u := u) hord hord2 (by simp) (fun r hr => ?_) (fun r hr => ?_)
      · rcases List.mem_append.1 hr with hr | hr
        · rcases List.mem_append.1 hr with hr | hr
          · exact .inr (List.mem_append_left _ hr)
          · exact .inl (List.mem_singleton.1 hr)
        · exact .inr (List.mem_append_right _ (List.mem_cons_of_mem _ hr))
      · rcases List.mem_append.1 hr with hr | hr
        · exact .inr (List.mem_append_left _ (List.mem_append_left _ hr))
        · rcases List.mem_cons.1 hr with rfl | hr
          · exact .inl rfl
          · exact .inr (List.mem_append_right _ hr)
    rw [e3]
    have e4 : ((Ms ++ [((⟨p.1.k, vac13 p.1.vs m⟩ : Itm), u)]) ++ M.drop (i + 1)).length = (Ms ++ p :: M.drop (i + 1)).length := by simp
    rw [e4]
    exact ((hm.still ((Turn.refl _ _).alloc o)).turn t9 hog).turn TS (fun e => hrg e.symm)
  · rcases List.mem_append.1 hr with hr | hr
    · obtain ⟨k1, k2, k3⟩ := h7.vers r hr
      refine ⟨⟨k1.1.turn T7S (fun hh b hb e => ?_), fun hh b hb e => ?_⟩, k2, k3⟩
      · rcases e with (e | e) | e
        · exact k1.2 hh b hb (.inr (.inl (.inr (.inl e))))
        · exact k1.2 hh b hb (.inr (.inr e))
        · exact k1.2 hh b hb (.inl e)
      · rcases e with e | e | e
        · exact k1.2 hh b hb (.inl e)
        · exact k1.2 hh b hb (.inr (.inl e))
        · rcases hv9 b e with h1 | h1
          · exact k1.2 hh b hb (.inr (.inr h1))
          · obtain ⟨b', e1, hlt⟩ := k1.1.at_ hh
            rw [hb] at e1
            cases e1
            omega
    · simp at hr
      subst hr
      refine ⟨⟨hv.turn T7S (fun hh b hb e => ?_), fun hh b hb e => ?_⟩, hw.cv, he⟩
      · have h1 := hnew b hb
        rcases e with (e | e) | e
        · omega
        · have := (hown b e).2; omega
        · omega
      · have h1 := hnew b hb
        rcases e with e | e | e
        · omega
        · have := hsw b e; omega
        · rcases hv9 b e with h2 | h2
          · have := (hown b h2).2; omega
          · omega
  · rw [TXS.block k (Array.getElem?_eq_some_iff.1 ho).1 (fun e => by
      rcases e with (e | e) | e
      · omega
      · rw [own_far14 h.keys k o e ho] at hc; cases hc
      · omega)]
    exact ho
end Go.Proofs.Ytobddfpdijmgiaa
/- Layer 14: the program's Vacuum. (mkSpAg.py) -/
namespace Go.Proofs.Ytobddfpdijmgiaa
open Go.RowKit Go.Shelf
set_option linter.unusedVariables false
set_option linter.unusedSimpArgs false
set_option maxRecDepth 100000
attribute [local go_sem] Oper.semAt_some

theorem vacuum_14n {w : World} {v : Value} (m : Int) (h : Nos w v) :
    Calls Try.prog 52 #[v, .int .i64 m] w fun e w' => e = .returned (.int .i64 1) ∧ Turn (fun _ => False) w w' := by
  have HT := Lib.hid (fun W (hT : Turn (fun _ => False) w W) => made14_no (h.still hT))
  rcases h with rfl | ⟨q, vk, a, b, rfl, h⟩
  all_goals
    first | clear h | skip
    go_enter Try.func52, Try.ntmps52
    go_wp2_with (go_at_call 66; refine (HT.out _ (((Turn.refl _ _).alloc _).alloc _)).mono ?_; rintro e w' ⟨rfl, rfl⟩)
    go_ret
    exact ⟨rfl, ((Turn.refl _ _).alloc _).alloc _⟩
theorem own_gt14 {w w' : World} {base e size n g : Nat} {v : Value} {xs : List Value} (h : w.ownsRow base e size v n xs) (ht : Turn (fun k => k = g) w w') (hg : g < base) : w'.ownsRow base e size v n xs := by
  obtain ⟨hl, ⟨e, h0⟩ | ⟨b, cap, cur, e, hB, hh, hrest⟩⟩ := h
  · exact ⟨hl, .inl ⟨e, h0⟩⟩
  · exact ⟨hl, .inr ⟨b, cap, cur, e, hB, (ht.block b (Array.getElem?_eq_some_iff.1 hh).1 (fun e => by omega)).trans hh, hrest⟩⟩
theorem vs_end14 {w0s : Nat} {W0 X : World} {q g rk n c D : Nat} {vk : Value} {A : Option Addr} {M Ms : List (Itm × Value)} {m last mark : Int} (h : Vs14 W0 q g rk vk M m M.length (.slice A n c) Ms X) (hn : Ms.length = n) (hs : Sp W0 q vk g M last mark) (hdf : X.heap[D]? = some (.deferred (some []))) (hD : W0.heap.size ≤ D) (hq : q < w0s) (hg : g < w0s) (hw : w0s ≤ W0.heap.size) (hrk : w0s ≤ rk) (hrk2 : rk < W0.heap.size) (hsw : ∀ k, Sw q vk g k → k < W0.heap.size)
    (hbx : Blk X q 116 [vk, .map (some g), .int .i64 last, .int .i64 mark]) :
    ((X.drew.setCell ⟨q, 0, none⟩ (.slice A n c)).setCell ⟨q, 3, none⟩ (.int .i64 m)).heap[D]? = some (.deferred (some [])) ∧ Sp (((X.drew.setCell ⟨q, 0, none⟩ (.slice A n c)).setCell ⟨q, 3, none⟩ (.int .i64 m)).putObj D (.deferred none)) q (.slice A n c) g Ms last m ∧ (∀ k, (Value.slice A n c).ownBlock = some k → W0.heap.size ≤ k) ∧ Turn (fun k => Sw q vk g k ∨ w0s ≤ k) W0 (((X.drew.setCell ⟨q, 0, none⟩ (.slice A n c)).setCell ⟨q, 3, none⟩ (.int .i64 m)).putObj D (.deferred none)) := by
  have hown := own_ge9 h.keys
  have TS : Turn (fun k => k = q) X ((X.drew.setCell ⟨q, 0, none⟩ (.slice A n c)).setCell ⟨q, 3, none⟩ (.int .i64 m)) := ((Turn.refl (fun k => k = q) X).drew.setCell (p := ⟨q, 0, none⟩) (.inl rfl) _).setCell (p := ⟨q, 3, none⟩) (.inl rfl) _
  obtain ⟨Y, hY⟩ : ∃ Y, (X.drew.setCell ⟨q, 0, none⟩ (.slice A n c)).setCell ⟨q, 3, none⟩ (.int .i64 m) = Y := ⟨_, rfl⟩
  have hb : Blk Y q 116 [.slice A n c, .map (some g), .int .i64 last, .int .i64 m] := hY ▸ (hbx.drew.put 0 (.slice A n c)).put 3 (.int .i64 m)
  rw [hY] at TS ⊢
  have TP := put_turn14 Y D (.deferred none)
  have hDl : D < X.heap.size := (Array.getElem?_eq_some_iff.1 hdf).1
  have T2 : Turn (fun k => k = q ∨ k = D) X (Y.putObj D (.deferred none)) := (TS.mono (fun k _ e => .inl e)).trans_new TP (fun k _ e => .inr e)
  have hDo : ¬ (Value.slice A n c).ownBlock = some D := fun e => by have := own_far14 h.keys D _ e hdf; cases this
  have hvD : ∀ p ∈ Ms, 0 < p.1.vs.length → ∀ b, vb p.2 = some b → b ≠ D := fun p hp hh b hb2 e => by
    subst e
    obtain ⟨A', c', e1, _, hcc⟩ := (h.vers p hp).1.1
    obtain ⟨b', o', e2, hb', hx⟩ := hcc hh
    rw [e1] at hb2
    subst e2
    cases hb2
    obtain ⟨x, hx0⟩ : ∃ x, p.1.vs[0]? = some x := ⟨_, List.getElem?_eq_getElem hh⟩
    have hcell := (hx 0 x hx0).1
    simp [World.cell?, hdf] at hcell
  have hmap := h.map
  have hord := h.ord
  rw [List.drop_length, List.append_nil] at hmap hord
  refine ⟨(TS.block D hDl (by omega)).trans hdf, ⟨hb.turn TP (by omega), ?_, hmap.turn T2 (fun e => by
      rcases e with e | e
      · exact hs.sep.1 e.symm
      · omega), fun p hp => ⟨⟨(h.vers p hp).1.1.turn T2 (fun hh b hb2 e => ?_), fun hh b hb2 e => ?_⟩, (h.vers p hp).2⟩, hord, hs.sep.1, fun b hb2 => by have := (hown b hb2).1; exact ⟨by omega, by omega⟩⟩, fun k hk => (hown k hk).1, ?_⟩
  · have k0 : Kr X (.slice A n c) (keysM Ms) := by
      unfold Kr
      have h1 := own_mono9 h.keys (Nat.zero_le _)
      rw [hn] at h1
      rw [show (keysM Ms).length = n by simp [keysM, hn]]
      exact h1
    refine k0.turn T2 (fun k hk e => ?_)
    rcases e with e | e
    · have := (hown k hk).1; omega
    · exact hDo (e ▸ hk)
  · rcases e with e | e
    · exact (h.vers p hp).1.2 hh b hb2 (.inr (.inl (.inl e)))
    · exact hvD p hp hh b hb2 e
  · rcases e with e | e | e
    · exact (h.vers p hp).1.2 hh b hb2 (.inr (.inl (.inl e)))
    · exact (h.vers p hp).1.2 hh b hb2 (.inr (.inl (.inr (.inl e))))
    · exact (h.vers p hp).1.2 hh b hb2 (.inr (.inr e))
  · refine (h.turn.mono (fun k _ e => ?_)).trans_new T2 (fun k hk e => ?_)
    · rcases e with e | e
      · exact .inl (.inr (.inl e))
      · exact .inr (by omega)
    · rcases e with e | e
      · exact .inl (.inl e)
      · exact .inr (by omega)
set_option maxHeartbeats 8000000 in
theorem vacuum_14 {w : World} {q g : Nat} {vk : Value} {M : List (Itm × Value)} {last mark : Int} (m : Int) (h : Sp w q vk g M last mark) (hb : Bm 100000 M) (hm : ¬ (m < mark ∨ last < m)) :
    Calls Try.prog 52 #[.pointer (some ⟨q, 0, none⟩), .int .i64 m] w fun e w' => e = .returned (.int .i64 0) ∧ ∃ vk' M', Sp w' q vk' g M' last m ∧ M'.map (fun p : Itm × Value => p.1) = vcm (M.map (fun p : Itm × Value => p.1)) m ∧ (∀ k, Sw q vk' g k → Sw q vk g k ∨ w.heap.size ≤ k) ∧ Turn (Sw q vk g) w w' := by
  refine (callsIn_wide (n := 3)).1 ?_
  refine callsIn_of_wp_marks Try.func52 rfl trivial ?_ rfl
  simp only [Try.ntmps52, List.size_toArray, List.length_cons, List.length_nil, Nat.reduceAdd, Nat.reduceSub, Array.replicate_succ, Array.replicate_zero, List.push_toArray, List.append_toArray, List.nil_append, List.cons_append]
  have HT := Lib.hid (fun W (hT : Turn (fun _ => False) w W) => made14 (h.still hT))
  have HS := Lib.hid h
  have m1 : ¬ m < mark := fun h => hm (.inl h)
  have m2 : ¬ last < m := fun h => hm (.inr h)
  have m1b : decide (m < mark) = false := by simpa using m1
  have m2b : decide (last < m) = false := by simpa using m2
  have c2 : ((w.alloc (.cells #[.pointer (some ⟨q, 0, none⟩)] 27)).alloc (.cells #[.int .i64 m] 3)).cell? ⟨q, 2, none⟩ = some (.int .i64 last) := (((h.box.alloc _).alloc _).cell 2)
  have c3 : ((w.alloc (.cells #[.pointer (some ⟨q, 0, none⟩)] 27)).alloc (.cells #[.int .i64 m] 3)).cell? ⟨q, 3, none⟩ = some (.int .i64 mark) := (((h.box.alloc _).alloc _).cell 3)
  have BX : Hid (Blk ((w.alloc (.cells #[.pointer (some ⟨q, 0, none⟩)] 27)).alloc (.cells #[.int .i64 m] 3)) w.heap.size 27 [.pointer (some ⟨q, 0, none⟩)]) := Lib.hid ((Blk.new w 27 [.pointer (some ⟨q, 0, none⟩)]).alloc _)
  have BY : Hid (Blk ((w.alloc (.cells #[.pointer (some ⟨q, 0, none⟩)] 27)).alloc (.cells #[.int .i64 m] 3)) (w.heap.size + 1) 3 [.int .i64 m]) := Lib.hid (Blk.new_ _ 3 [.int .i64 m] (k := w.heap.size + 1) (by simp))
  have b0 := BX.out.cell 0
  have b1 := BY.out.cell 0
  simp only [List.getElem?_cons_zero] at b0 b1
  clear h hm
  gi_wp2_with fail
  refine ⟨trivial, ?_⟩
  gi_at_call 66
  refine (callsIn_wide.2 (HT.out _ (((Turn.refl _ _).alloc _).alloc _))).mono ?_
  rintro e w' ⟨rfl, rfl⟩
  gi_wp2_with fail
  refine wpIn_wide.2 ?_
  go_quiet (fail)
  gi_wp2_with fail
  refine ⟨trivial, ?_⟩
  gi_at_call 64
  refine (callsIn_wide.2 (withinFn14 _ rfl ByteArray.empty ByteArray.empty _)).mono ?_
  rintro e w1 ⟨rfl, rfl⟩
  gi_wp2_with fail
  obtain ⟨Wb, hWb⟩ : ∃ W, ((w.alloc (.cells #[.pointer (some ⟨q, 0, none⟩)] 27)).alloc (.cells #[.int .i64 m] 3)).drewN nq = W := ⟨_, rfl⟩
  have hWbs : Wb.heap.size = w.heap.size + 1 + 1 := by rw [← hWb]; simp
  have TB : Hid (Turn (fun _ => False) w Wb) := Lib.hid (hWb ▸ (((Turn.refl _ _).alloc _).alloc _).drewN nq)
  have BX2 : Hid (Blk Wb w.heap.size 27 [.pointer (some ⟨q, 0, none⟩)]) := Lib.hid (hWb ▸ BX.out.drewN nq)
  have BY2 : Hid (Blk Wb (w.heap.size + 1) 3 [.int .i64 m]) := Lib.hid (hWb ▸ BY.out.drewN nq)
  have F5 : Hid (∃ W0, W0 = (((Wb.alloc (.cells #[.slice none 0 0] 113)).alloc (.cells #[.pointer (some ⟨q, 0, none⟩)] 27)).alloc (.cells #[.string ByteArray.empty] 9)).alloc (.cells #[.string ByteArray.empty] 9) ∧ Sp W0 q vk g M last mark ∧ W0.heap.size = w.heap.size + 6 ∧ Turn (fun _ => False) w W0 ∧ Blk W0 w.heap.size 27 [.pointer (some ⟨q, 0, none⟩)] ∧ Blk W0 (w.heap.size + 1) 3 [.int .i64 m] ∧ Blk W0 (w.heap.size + 1 + 1) 113 [.slice none 0 0] ∧ Blk W0 (w.heap.size + 1 + 1 + 1) 27 [.pointer (some ⟨q, 0, none⟩)] ∧ Blk W0 (w.heap.size + 1 + 1 + 1 + 1) 9 [.string ByteArray.empty] ∧ Blk W0 (w.heap.size + 1 + 1 + 1 + 2) 9 [.string ByteArray.empty]) := by
    have T0 : Turn (fun _ => False) w ((((Wb.alloc (.cells #[.slice none 0 0] 113)).alloc (.cells #[.pointer (some ⟨q, 0, none⟩)] 27)).alloc (.cells #[.string ByteArray.empty] 9)).alloc (.cells #[.string ByteArray.empty] 9)) := (((TB.out.alloc _).alloc _).alloc _).alloc _
    refine Lib.hid ⟨_, rfl, HS.out.still T0, by simp [hWbs], T0, ?_, ?_, ?_, ?_, ?_, ?_⟩
    · exact (((BX2.out.alloc _).alloc _).alloc _).alloc _
    · exact (((BY2.out.alloc _).alloc _).alloc _).alloc _
    · exact (((Blk.new_ Wb 113 [.slice none 0 0] (k := w.heap.size + 1 + 1) hWbs).alloc _).alloc _).alloc _
    · exact ((Blk.new_ _ 27 [.pointer (some ⟨q, 0, none⟩)] (k := w.heap.size + 1 + 1 + 1) (by simp [hWbs])).alloc _).alloc _
    · exact (Blk.new_ _ 9 [.string ByteArray.empty] (k := w.heap.size + 1 + 1 + 1 + 1) (by simp [hWbs])).alloc _
    · exact Blk.new_ _ 9 [.string ByteArray.empty] (k := w.heap.size + 1 + 1 + 1 + 2) (by simp [hWbs])
  obtain ⟨W0, hW0, fs, fz, ft, f0, f1, f2, f3, f4, f5⟩ := F5.out
  change Code.wpIn Fence.wide 3 Try.prog (Code.rangeFunc _ _ _ _) _ _ (((((((w.alloc (.cells #[.pointer (some ⟨q, 0, none⟩)] 27)).alloc (.cells #[.int .i64 m] 3)).drewN nq).alloc (.cells #[.slice none 0 0] 113)).alloc (.cells #[.pointer (some ⟨q, 0, none⟩)] 27)).alloc (.cells #[.string ByteArray.empty] 9)).alloc (.cells #[.string ByteArray.empty] 9))
  rw [hWb, ← hW0]
  clear F5 hW0 hWb BX BY BX2 BY2 TB hWbs b0 b1 c2 c3 m1b m2b
  have hb0 := HS.out.below
  have hqr : q < w.heap.size := hb0 q (.inl rfl)
  have hgr : g < w.heap.size := hb0 g (.inr (.inl rfl))
  have HKR : Hid (∀ k, vk.ownBlock = some k → k < w.heap.size) := Lib.hid (fun k hk => hb0 k (.inr (.inr hk)))
  have FX : Hid (∀ X, Turn (fun k => k = g ∨ k = w.heap.size + 1 + 1) W0 X → Blk X q 116 [vk, .map (some g), .int .i64 last, .int .i64 mark] ∧ Blk X w.heap.size 27 [.pointer (some ⟨q, 0, none⟩)] ∧ Blk X (w.heap.size + 1) 3 [.int .i64 m] ∧ Rd14 X (w.heap.size + 1 + 1 + 1) (w.heap.size + 1 + 1 + 1 + 1) (w.heap.size + 1 + 1 + 1 + 2) q vk g (keysM M) ByteArray.empty ByteArray.empty ∧ ∀ p ∈ M, Vr X p.2 p.1.vs) := Lib.hid (fun X hX => by
    have hbx : Blk X q 116 [vk, .map (some g), .int .i64 last, .int .i64 mark] := fs.box.turn hX (fun e => by rcases e with e | e; exact fs.sep.1 e; omega)
    refine ⟨hbx, f0.turn hX (fun e => by omega), f1.turn hX (fun e => by omega), ⟨(f3.turn hX (fun e => by omega)).cell 0, (f4.turn hX (fun e => by omega)).cell 0, (f5.turn hX (fun e => by omega)).cell 0, hbx.cell 0, hbx.cell 1, fs.keys.turn hX (fun k hk e => by
      rcases e with e | e
      · exact (fs.sep.2 k hk).2 e
      · have := HKR.out k hk; omega)⟩, fun p hp => (fs.vers p hp).1.1.turn hX (fun hh b hb e => ?_)⟩
    rcases e with e | e
    · exact (fs.vers p hp).1.2 hh b hb (.inr (.inl e))
    · obtain ⟨b', e1, h1⟩ := (HS.out.vers p hp).1.1.at_ hh
      rw [hb] at e1
      cases e1
      omega)
  have hMb := hb.1
  have HBv : Hid (∀ p ∈ M, p.1.vs.length ≤ 100000 ∧ p.1.k.size ≤ 128 ∧ Cv p.2) := Lib.hid (fun p hp => ⟨(hb.2 p hp).1, (hb.2 p hp).2, (HS.out.vers p hp).2.1⟩)
  have hr := HS.out.ord
  have HRA := Lib.hid (rng_all M)
  have HF2 : Hid (Vs14 W0 q g (w.heap.size + 1 + 1) vk M m 0 (.slice none 0 0) [] W0) := Lib.hid ⟨f2, World.ownsRow_nil _ _ _ _, rfl, by simpa using fs.map, by simpa using fs.ord, (fun p hp => by cases hp), Turn.refl _ _⟩
  have HSW0 : Hid (∀ k, Sw q vk g k → k < W0.heap.size) := Lib.hid fs.below
  have HSP0 := Lib.hid fs
  clear f0 f1 f2 f3 f4 f5 fs HT
  refine range14 (w.heap.size + 1 + 1 + 1) (w.heap.size + 1 + 1 + 1 + 1) (w.heap.size + 1 + 1 + 1 + 2) q g vk M ByteArray.empty ByteArray.empty rfl rfl hr (by omega) (fun p hp => by have := (HBv.out p hp).2.1; unfold maxLen; omega)
    (fun i X => ∃ v Ms, Vs14 W0 q g (w.heap.size + 1 + 1) vk M m i v Ms X) (fun c i X => False)
    (fun i X Y row h hg hr => by obtain ⟨v, Ms, h⟩ := h; exact ⟨v, Ms, vs_from14 h (by omega) hg hr⟩) (fun c i X Y row h hg hr => h)
    (fun i X h => by
      obtain ⟨v, Ms, h⟩ := h
      refine ⟨(FX.out X h.turn).2.2.2.1, fun p hp => ⟨_, _, h.map, ris_look h.ord ?_⟩⟩
      rw [HRA.out] at hp
      refine List.mem_append_right _ (List.mem_of_getElem? (i := 0) ?_)
      rw [List.getElem?_drop]
      exact hp)
    ⟨_, _, HF2.out⟩ ?a1 ?assign ?body ?done ?stop
  case assign =>
    intro l p W K hK
    gi_wp2
    exact hK
  case body =>
    intro l i p W hp hI
    obtain ⟨v, Ms, hI⟩ := hI
    obtain ⟨k1, k2, k3, k4, k5⟩ := FX.out W hI.turn
    rw [HRA.out] at hp
    have hpm := List.mem_of_getElem? hp
    obtain ⟨hlb, hkb, hcv⟩ := HBv.out p hpm
    have hvv := k5 p hpm
    obtain ⟨A, c, rfl⟩ := own_slice_ hI.keys
    have ci := k2.cell 0
    have cm := k3.cell 0
    simp only [List.getElem?_cons_zero] at ci cm
    have HVC := Lib.hid (vacuum13n p.1.vs p.2 m W hvv hcv (by omega))
    obtain ⟨n, hn⟩ : ∃ n, Ms.length = n := ⟨_, rfl⟩
    have hni : n ≤ 100000 := by
      have h1 := congrArg List.length hI.items
      rw [List.length_map] at h1
      have h2 : (vcm ((M.take i).map (fun p : Itm × Value => p.1)) m).length ≤ i := by
        unfold vcm
        refine Nat.le_trans (List.length_filter_le _ _) ?_
        rw [List.length_map, List.length_map, List.length_take]
        omega
      have h3 : i < M.length := by
        rcases Nat.lt_or_ge i M.length with h | h
        · exact h
        · rw [List.getElem?_eq_none h] at hp; cases hp
      omega
    have hcnt : (Ms ++ M.drop i).length < maxLen := by
      rw [List.length_append, List.length_drop]
      unfold maxLen
      omega
    rw [hn] at hI
    have HI := Lib.hid hI
    have HP := Lib.hid hp
    have HN := Lib.hid hn
    have HQ : Hid (∀ X, Turn (fun _ => False) W X → X.cell? ⟨w.heap.size, 0, none⟩ = some (.pointer (some ⟨q, 0, none⟩)) ∧ X.cell? ⟨q, 1, none⟩ = some (.map (some g)) ∧ X.cell? ⟨w.heap.size + 1 + 1, 0, none⟩ = some (.slice A n c)) := Lib.hid (fun X hX => ⟨(k2.turn hX (fun h => h)).cell 0, (k1.turn hX (fun h => h)).cell 1, (hI.box.turn hX (fun h => h)).cell 0⟩)
    obtain ⟨⟨pk, pvs⟩, pv⟩ := p
    simp only at HVC hkb hlb
    clear hp hpm hcv hvv k1 k2 k3 k4 k5 ci hI hn
    by_cases he : vac13 pvs m = []
    · rw [he] at HVC
      gi_wp2_with fail
      refine ⟨trivial, ?_⟩
      gi_at_call 102
      refine (CallsIn.inRound l (callsIn_wide.2 HVC.out)).mono ?_
      rintro e X7 ⟨v7, rfl, hv7, hw7, ht7⟩
      obtain ⟨A7, c7, rfl⟩ := hv7.len
      have T7 := Lib.hid ht7
      obtain ⟨d0, d1, d2⟩ := HQ.out X7 ht7
      have M7 := Lib.hid (HI.out.map.still ht7)
      clear hv7 hw7 ht7
      gi_wp2_with (refine wpListIn_delete_mp rfl _ _ rfl g (Ms ++ M.drop i).length (look (Ms ++ M.drop i)) pk (by unfold maxLen; omega) rfl M7.out rfl ?_; intro X9 hm9 ht9; have M9 := Lib.hid hm9; have T9 := Lib.hid ht9; clear hm9 ht9)
      obtain ⟨r1, r2⟩ := vs_gone14 HI.out HP.out he T7.out M9.out T9.out (by omega) (by omega)
      have r3 := r2
      rw [fz] at r3
      exact ⟨by first | exact r2 | exact r3, _, _, r1⟩
    · obtain ⟨V, hV⟩ : ∃ V, vac13 pvs m = V := ⟨_, rfl⟩
      have HV := Lib.hid hV
      rw [hV] at HVC he
      obtain ⟨m7, hm7⟩ : ∃ n, V.length = n := ⟨_, rfl⟩
      have hpos : 0 < m7 := by rw [← hm7]; exact List.length_pos_iff.2 he
      have hne0 : ((m7 : Int) == 0) = false := by simp; omega
      have HM7 := Lib.hid hm7
      clear hV hm7
      gi_wp2_with fail
      refine ⟨trivial, ?_⟩
      gi_at_call 102
      refine (CallsIn.inRound l (callsIn_wide.2 HVC.out)).mono ?_
      rintro e X7 ⟨v7, rfl, hv7, hw7, ht7⟩
      obtain ⟨A7, c7, rfl⟩ := hv7.len
      rw [HM7.out] at hv7 hw7 ⊢
      have T7 := Lib.hid ht7
      have V7 := Lib.hid hv7
      have N7 := Lib.hid hw7
      obtain ⟨d0, d1, d2⟩ := HQ.out X7 ht7
      have M7 := Lib.hid (HI.out.map.still ht7)
      have K7 : Hid (X7.ownsRow W0.heap.size 9 1 (.slice A n c) n ((keysM Ms).map Value.string)) := Lib.hid (by have h1 := own_still_ HI.out.keys ht7; rw [HN.out] at h1; exact h1)
      have B7 := Lib.hid (HI.out.box.turn ht7 (fun h => h))
      clear hv7 hw7 ht7
      gi_wp2_with (first | (refine wpListIn_update_mp rfl _ _ _ rfl g (Ms ++ M.drop i).length (look (Ms ++ M.drop i)) pk (.slice A7 m7 c7) (by unfold maxLen; omega) rfl M7.out hcnt rfl rfl ?_; intro X8 hm8 ht8; have M8 := Lib.hid hm8; have T8 := Lib.hid ht8; have K8 := Lib.hid (own_gt14 K7.out ht8 (by omega)); have d8 := (B7.out.turn ht8 (by omega)).cell 0; simp only [List.getElem?_cons_zero] at d8; clear hm8 ht8) | (refine wpListIn_app14p rfl _ _ 113 rfl W0.heap.size 9 _ 1 16 Try.underlying113 info_str14 rfl (by decide) (by decide) (.slice A n c) n ((keysM Ms).map Value.string) rfl (own_still_ K8.out ((Turn.refl _ _).alloc _)) X8.heap.size [.string pk] rfl (Blk.new X8 9 [.string pk]) rfl (fun u hu => by simp at hu; subst hu; rfl) (by omega) (by rw [World.size_alloc]; have h1 := HI.out.turn.size; have h2 := T7.out.size; have h3 := T8.out.size; omega) ?_; intro A9 c9 X9 ho9 ht9 hp9; have hE := Lib.hid (vs_kept14 (p := ((⟨pk, pvs⟩ : Itm), pv)) HI.out HN.out HP.out (by simp only [HV.out]; exact he) T7.out (by simp only [HV.out]; exact V7.out) N7.out M8.out T8.out ho9 ht9 hp9 (by omega) (by omega) (by omega) HSW0.out); clear ho9 ht9 hp9; obtain ⟨z9, f9, _, _⟩ := hE.out))
      obtain ⟨_, _, r1, r2⟩ := hE.out
      have r3 := r2
      rw [fz] at r3
      exact ⟨by first | exact r2 | exact r3, _, _, r1⟩
  case done =>
    intro D X hD hI hdf
    obtain ⟨v, Ms, hI⟩ := hI
    rw [HRA.out] at hI
    obtain ⟨A, c, rfl⟩ := own_slice_ hI.keys
    obtain ⟨k1, k2, k3, k4, k5⟩ := FX.out X hI.turn
    obtain ⟨n, hn⟩ : ∃ n, Ms.length = n := ⟨_, rfl⟩
    rw [hn] at hI
    have HI := Lib.hid hI
    have HN := Lib.hid hn
    have HDF := Lib.hid hdf
    have K1 := Lib.hid k1
    have K2 := Lib.hid k2
    have K3 := Lib.hid k3
    have HQ1 : Hid (Blk X q 116 [vk, .map (some g), .int .i64 last, .int .i64 mark]) := Lib.hid k1
    have HBX : Hid (Blk X w.heap.size 27 [.pointer (some ⟨q, 0, none⟩)] ∧ Blk X (w.heap.size + 1) 3 [.int .i64 m] ∧ Blk X (w.heap.size + 1 + 1) 113 [.slice A n c]) := Lib.hid ⟨k2, k3, hI.box⟩
    have HEND := Lib.hid (vs_end14 hI hn (HSP0.out) hdf hD (by omega) (by omega) (by omega) (by omega) (by omega) HSW0.out k1)
    have q0 := k1.cell 0
    have g0 := k1.free 0
    simp only [List.getElem?_cons_zero] at q0
    clear k1 k2 k3 k4 k5 hI hdf hn
    gi_wp2_with fail
    -- region
    refine wpIn_wide.2 ?_
    refine wp_region_noPanic ?_
    refine wp_region_held_drew (S := (fun Y => Y.cell? ⟨w.heap.size, 0, none⟩ = some (.pointer (some ⟨q, 0, none⟩)) ∧ Y.cell? ⟨w.heap.size + 1, 0, none⟩ = some (.int .i64 m) ∧ Y.cell? ⟨w.heap.size + 1 + 1, 0, none⟩ = some (.slice A n c))) (by kernel_rfl) ⟨HBX.out.1.drew.cell 0, HBX.out.2.1.drew.cell 0, HBX.out.2.2.drew.cell 0⟩ (fun hHeld => ?_)
    refine wpAnyH_take (i := 0) (v := ?_) rfl (by kernel_rfl) (by kernel_rfl) (by kernel_rfl) (fun _ _ _ h => h) (Or.inl ⟨by rfl, ?_⟩) (by assumption) ?_
    rotate_left 1
    · intro w' hSw
      obtain ⟨y1, y2, y3⟩ := hSw
      go_simp
      all_goals first | with_reducible rfl | (rw [if_neg (by omega)]; done) | (rw [if_pos (by omega)]; done) | (rw [if_neg (by omega)]; with_reducible rfl) | (rw [if_pos (by omega)]; with_reducible rfl)
    try simp only [List.getElem_toArray, List.getElem_cons_zero, List.getElem_cons_succ, Act.put, List.setIfInBounds_toArray, List.set_cons_zero, List.set_cons_succ]
    refine wpAnyH_take (i := 1) (v := ?_) rfl (by kernel_rfl) (by kernel_rfl) (by kernel_rfl) (fun _ _ _ h => h) (Or.inl ⟨by rfl, ?_⟩) (by assumption) ?_
    rotate_left 1
    · intro w' hSw
      obtain ⟨y1, y2, y3⟩ := hSw
      go_simp
      all_goals first | with_reducible rfl | (rw [if_neg (by omega)]; done) | (rw [if_pos (by omega)]; done) | (rw [if_neg (by omega)]; with_reducible rfl) | (rw [if_pos (by omega)]; with_reducible rfl)
    try simp only [List.getElem_toArray, List.getElem_cons_zero, List.getElem_cons_succ, Act.put, List.setIfInBounds_toArray, List.set_cons_zero, List.set_cons_succ]
    refine wpAnyH_take (i := 2) (v := ?_) rfl (by kernel_rfl) (by kernel_rfl) (by kernel_rfl) (fun _ _ _ h => h) (Or.inl ⟨by rfl, ?_⟩) (by assumption) ?_
    rotate_left 1
    · intro w' hSw
      obtain ⟨y1, y2, y3⟩ := hSw
      go_simp
      all_goals first | with_reducible rfl | (rw [if_neg (by omega)]; done) | (rw [if_pos (by omega)]; done) | (rw [if_neg (by omega)]; with_reducible rfl) | (rw [if_pos (by omega)]; with_reducible rfl)
    try simp only [List.getElem_toArray, List.getElem_cons_zero, List.getElem_cons_succ, Act.put, List.setIfInBounds_toArray, List.set_cons_zero, List.set_cons_succ]
    refine wpAnyH_take (i := 3) (v := ?_) rfl (by kernel_rfl) (by kernel_rfl) (by kernel_rfl) (fun _ _ _ h => h) (Or.inl ⟨by rfl, ?_⟩) (by assumption) ?_
    rotate_left 1
    · intro w' hSw
      obtain ⟨y1, y2, y3⟩ := hSw
      go_simp
      all_goals first | with_reducible rfl | (rw [if_neg (by omega)]; done) | (rw [if_pos (by omega)]; done) | (rw [if_neg (by omega)]; with_reducible rfl) | (rw [if_pos (by omega)]; with_reducible rfl)
    try simp only [List.getElem_toArray, List.getElem_cons_zero, List.getElem_cons_succ, Act.put, List.setIfInBounds_toArray, List.set_cons_zero, List.set_cons_succ]
    refine wpAnyH_take (i := 4) (v := ?_) rfl (by kernel_rfl) (by kernel_rfl) (by kernel_rfl) (fun _ _ _ h => h) (Or.inl ⟨by rfl, ?_⟩) (by assumption) ?_
    rotate_left 1
    · intro w' hSw
      go_simp
      all_goals first | with_reducible rfl | (rw [if_neg (by omega)]; done) | (rw [if_pos (by omega)]; done) | (rw [if_neg (by omega)]; with_reducible rfl) | (rw [if_pos (by omega)]; with_reducible rfl)
    try simp only [List.getElem_toArray, List.getElem_cons_zero, List.getElem_cons_succ, Act.put, List.setIfInBounds_toArray, List.set_cons_zero, List.set_cons_succ]
    refine wpAnyH_take (i := 5) (v := ?_) rfl (by kernel_rfl) (by kernel_rfl) (by kernel_rfl) (fun _ _ _ h => h) (Or.inl ⟨by rfl, ?_⟩) (by assumption) ?_
    rotate_left 1
    · intro w' hSw
      go_simp
      all_goals first | with_reducible rfl | (rw [if_neg (by omega)]; done) | (rw [if_pos (by omega)]; done) | (rw [if_neg (by omega)]; with_reducible rfl) | (rw [if_pos (by omega)]; with_reducible rfl)
    try simp only [List.getElem_toArray, List.getElem_cons_zero, List.getElem_cons_succ, Act.put, List.setIfInBounds_toArray, List.set_cons_zero, List.set_cons_succ]
    refine wpAnyH_ready (rs := [6]) (by kernel_rfl) (by simp) ?_
    refine AllReadyH.cons rfl (fun K hK => ?_) AllReadyH.nil
    go_simp
    refine hK.out _ _ ⟨(HBX.out.1.far (by show w.heap.size ≠ q; omega) _).cell 0, (HBX.out.2.1.far (by show w.heap.size + 1 ≠ q; omega) _).cell 0, (HBX.out.2.2.far (by show w.heap.size + 1 + 1 ≠ q; omega) _).cell 0⟩ (fun hHeld => ?_)
    clear hK K
    try simp only [List.getElem_toArray, List.getElem_cons_zero, List.getElem_cons_succ, Act.put, List.setIfInBounds_toArray, List.set_cons_zero, List.set_cons_succ]
    refine wpAnyH_take (i := 7) (v := ?_) rfl (by kernel_rfl) (by kernel_rfl) (by kernel_rfl) (fun _ _ _ h => h) (Or.inl ⟨by rfl, ?_⟩) (by assumption) ?_
    rotate_left 1
    · intro w' hSw
      go_simp
      all_goals first | with_reducible rfl | (rw [if_neg (by omega)]; done) | (rw [if_pos (by omega)]; done) | (rw [if_neg (by omega)]; with_reducible rfl) | (rw [if_pos (by omega)]; with_reducible rfl)
    try simp only [List.getElem_toArray, List.getElem_cons_zero, List.getElem_cons_succ, Act.put, List.setIfInBounds_toArray, List.set_cons_zero, List.set_cons_succ]
    refine wpAnyH_take (i := 8) (v := ?_) rfl (by kernel_rfl) (by kernel_rfl) (by kernel_rfl) (fun _ _ _ h => h) (Or.inl ⟨by rfl, ?_⟩) (by assumption) ?_
    rotate_left 1
    · intro w' hSw
      go_simp
      all_goals first | with_reducible rfl | (rw [if_neg (by omega)]; done) | (rw [if_pos (by omega)]; done) | (rw [if_neg (by omega)]; with_reducible rfl) | (rw [if_pos (by omega)]; with_reducible rfl)
    try simp only [List.getElem_toArray, List.getElem_cons_zero, List.getElem_cons_succ, Act.put, List.setIfInBounds_toArray, List.set_cons_zero, List.set_cons_succ]
    refine wpAnyH_ready (rs := [9]) (by kernel_rfl) (by simp) ?_
    refine AllReadyH.cons rfl (fun K hK => ?_) AllReadyH.nil
    have q3 := (HQ1.out.put 0 (.slice A n c)).cell 3
    have f3 := (HQ1.out.put 0 (.slice A n c)).free 3
    simp only [List.set_cons_zero, List.getElem?_cons_succ, List.getElem?_cons_zero] at q3
    go_simp
    refine hK.out _ _ ⟨((HBX.out.1.far (by show w.heap.size ≠ q; omega) _).far (by show w.heap.size ≠ q; omega) _).cell 0, ((HBX.out.2.1.far (by show w.heap.size + 1 ≠ q; omega) _).far (by show w.heap.size + 1 ≠ q; omega) _).cell 0, ((HBX.out.2.2.far (by show w.heap.size + 1 + 1 ≠ q; omega) _).far (by show w.heap.size + 1 + 1 ≠ q; omega) _).cell 0⟩ (fun hHeld => ?_)
    clear hK K
    try simp only [List.getElem_toArray, List.getElem_cons_zero, List.getElem_cons_succ, Act.put, List.setIfInBounds_toArray, List.set_cons_zero, List.set_cons_succ]
    refine wpAnyH_done (by kernel_rfl) ?_ _
    refine NoPanic.normal ?_
    -- region end
    gi_wp2_with fail
    obtain ⟨e1, e2, e3, e4⟩ := HEND.out
    refine ret_mark14 (D := D) (v := .int .i64 0) e1 rfl (by simp [results, Try.results52, go_sem]) ?_
    refine ⟨rfl, .slice A n c, Ms, e2, ?_, fun k hk => ?_, ?_⟩
    · have h1 := HI.out.items
      rw [List.take_length] at h1
      exact h1
    · rcases hk with e | e | e
      · exact .inl (.inl e)
      · exact .inl (.inr (.inl e))
      · exact .inr (by have := e3 k e; have := ft.size; omega)
    · exact (ft.mono (fun k _ h => h.elim)).trans_new e4 (fun k hk h => by
        rcases h with h | h
        · exact h
        · have := ft.size; omega)
  case stop =>
    intro D c i X hD hi hI hdf
    exact hI.elim
end Go.Proofs.Ytobddfpdijmgiaa
/- Layer 14: calls that refuse; of none. -/
namespace Go.Proofs.Ytobddfpdijmgiaa
open Go.RowKit Go.Shelf
set_option linter.unusedVariables false
set_option linter.unusedSimpArgs false
set_option maxRecDepth 100000

theorem items_14n {w : World} {v : Value} (h : Nos w v) :
    Calls Try.prog 29 #[v] w fun e w' => e = .returned (.slice none 0 0) ∧ w' = w := by
  have HM := Lib.hid (made14_no h)
  clear h
  go_enter Try.func29, Try.ntmps29
  go_wp2_with (go_at_call 66; refine HM.out.mono ?_; rintro e w' ⟨rfl, rfl⟩)
  go_ret
  exact ⟨rfl, rfl⟩
theorem vacuum_14b {w : World} {q g : Nat} {vk : Value} {M : List (Itm × Value)} {last mark : Int} (m : Int) (h : Sp w q vk g M last mark) (hm : m < mark ∨ last < m) :
    Calls Try.prog 52 #[.pointer (some ⟨q, 0, none⟩), .int .i64 m] w fun e w' => e = .returned (.int .i64 2) ∧ Turn (fun _ => False) w w' := by
  have HT := Lib.hid (fun W (hT : Turn (fun _ => False) w W) => made14 (h.still hT))
  have c2 : ((w.alloc (.cells #[.pointer (some ⟨q, 0, none⟩)] 27)).alloc (.cells #[.int .i64 m] 3)).cell? ⟨q, 2, none⟩ = some (.int .i64 last) := (((h.box.alloc _).alloc _).cell 2)
  have c3 : ((w.alloc (.cells #[.pointer (some ⟨q, 0, none⟩)] 27)).alloc (.cells #[.int .i64 m] 3)).cell? ⟨q, 3, none⟩ = some (.int .i64 mark) := (((h.box.alloc _).alloc _).cell 3)
  have BX : Hid (Blk ((w.alloc (.cells #[.pointer (some ⟨q, 0, none⟩)] 27)).alloc (.cells #[.int .i64 m] 3)) w.heap.size 27 [.pointer (some ⟨q, 0, none⟩)]) := Lib.hid ((Blk.new w 27 [.pointer (some ⟨q, 0, none⟩)]).alloc _)
  have BY : Hid (Blk ((w.alloc (.cells #[.pointer (some ⟨q, 0, none⟩)] 27)).alloc (.cells #[.int .i64 m] 3)) (w.heap.size + 1) 3 [.int .i64 m]) := Lib.hid (Blk.new_ _ 3 [.int .i64 m] (k := w.heap.size + 1) (by simp))
  have b0 := BX.out.cell 0
  have b1 := BY.out.cell 0
  simp only [List.getElem?_cons_zero] at b0 b1
  clear h
  have key : (decide (m < mark) = true) ∨ (decide (m < mark) = false ∧ decide (last < m) = true) := by
    by_cases h1 : m < mark
    · exact .inl (by simpa using h1)
    · exact .inr ⟨by simpa using h1, by simp; omega⟩
  clear hm
  rcases key with m1b | ⟨m1b, m2b⟩
  all_goals
    go_enter Try.func52, Try.ntmps52
    go_wp2_with (go_at_call 66; refine (HT.out _ (((Turn.refl _ _).alloc _).alloc _)).mono ?_; rintro e w' ⟨rfl, rfl⟩)
    go_quiet (fail)
    go_wp2_with fail
    go_ret
    exact ⟨rfl, (((Turn.refl _ _).alloc _).alloc _).drewN nq⟩
end Go.Proofs.Ytobddfpdijmgiaa
