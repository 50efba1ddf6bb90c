/- Layer 16: spans put together. -/
import Derived.Test.YtjkfgbmlhglnfaaRdH
import Derived.Test.YtjkfgbmlhglnfaaAppB
import Derived.Scope
import Derived.Great.BuildSlice
import Derived.WalkMore
namespace Go.Proofs.Ytjkfgbmlhglnfaa
open Go.RowKit Go.Shelf
set_option linter.unusedVariables false
set_option linter.unusedSimpArgs false
set_option maxRecDepth 100000
attribute [local go_sem] Oper.semAt_some

theorem step_app_rc16 {P : Program} {w : World} {ops : Array Oper} {o : Oper} {a : Act} {K : Act → World → Prop} {Q : Exit → Act → World → Prop} {E : Prop} (hgd : o.guard = none) (x y : Operand) (t : TypeId)
    (ho : o.op = .call { callee := .builtin .append, args := #[x, y], argTypes := #[t, t] })
    (base : Nat) (e : TypeId) (z : Value) (size bytes : Nat) (ht : P.underlying t = some (.slice e)) (hi : (P.info? e).map (fun i => (i.zero, i.size, i.bytes)) = some (some z, size, bytes)) (hzs : z.cells.size = size) (hsz : 0 < size)
    (v : Value) (n : Nat) (xs : List Value) (hx : a.eval x = v) (hown : w.ownsRow base e size v n xs)
    (A : Option Addr) (m c : Nat) (news : List Value) (hy : a.eval y = .slice A m c) (hl : news.length = m * size) (hr : Rc w A news) (h1 : ∀ u ∈ news, u.oneCell' = true)
    (h63 : n + m ≤ maxLen) (hbytes : (n + m) * bytes ≤ 140737488355328) (hbase : base ≤ w.heap.size)
    (h : ∀ A' c' w', w'.ownsRow base e size (.slice A' (n + m) c') (n + m) (xs ++ news) → Turn (fun k => v.ownBlock = some k) w w' → K (a.put o.dst (.slice A' (n + m) c')) w') :
    if Region.wanted o (yielded ops a.tmps) = true then Oper.wp P o a w K Q else E := by
  have hw : Region.wanted o (yielded ops a.tmps) = true := by simp [Region.wanted, hgd]
  rw [if_pos hw]
  cases hi' : P.info? e with
  | none => rw [hi'] at hi; cases hi
  | some i =>
    rw [hi'] at hi
    simp at hi
    obtain ⟨hz, hs, hb⟩ := hi
    obtain ⟨v', w', hrun, h2, h3, h5⟩ := run_app_rc (P := P) (w := w) base t o.type e i z size bytes ht hi' hz hs hb hzs hsz v n xs hown A m c news hl hr h1 h63 hbytes hbase
    obtain ⟨A', c', rfl⟩ := own_slice_ h2
    unfold Oper.wp execOp
    simp only [ho, resolve, invoke, builtin, Sem.run_bind, Sem.run_pure, Result.andThen_ok, List.map_toArray, List.map_cons, List.map_nil, hx, hy, hrun]
    exact h A' c' w' h2 h3
theorem foldl_set16 (l : List Value) : ∀ (k : Nat) (C : Array Value), k + l.length ≤ C.size → ((l.zipIdx k).foldl (fun (cs : Array Value) (x : Value × Nat) => cs.setIfInBounds (0 + x.2) x.1) C).toList = C.toList.take k ++ l ++ C.toList.drop (k + l.length) := by
  induction l with
  | nil => intro k C h; simp
  | cons v l ih =>
    intro k C h
    rw [List.zipIdx_cons, List.foldl_cons, ih (k + 1) _ (by simp at h ⊢; omega)]
    simp only [Nat.zero_add, Array.toList_setIfInBounds, List.length_cons] at h ⊢
    rw [List.take_succ_eq_append_getElem (by simp; omega), List.getElem_set_self, List.take_set_of_le (by omega), List.drop_set_of_lt (by omega)]
    simp [show k + 1 + l.length = k + (l.length + 1) from by omega]
theorem fill_one16 (n : Nat) (C : Array Value) (cs : List Value) (hC : C.size = n) (hc : cs.length = n) : Instr.fill (fun i => some (i * n, n)) C [(0, .agg cs.toArray)] = some cs.toArray := by
  have h := foldl_set16 cs 0 C (by omega)
  unfold Instr.fill
  simp only [Value.cells, List.size_toArray, hc, hC, ne_eq, not_true_eq_false, Nat.zero_mul, Nat.zero_add, Bool.or_eq_true, decide_eq_true_eq, Nat.lt_irrefl, or_self, Instr.fill]
  simp
  apply Array.ext'
  simp only [Nat.zero_add] at h
  rw [h]
  simp; omega
theorem step_build16 {w : World} {ops : Array Oper} {o : Oper} {a : Act} {K : Act → World → Prop} {Q : Exit → Act → World → Prop} {E : Prop} (hgd : o.guard = none) (t e : TypeId) (x : Operand) (ho : o.op = .buildSlice t 1 #[(0, x)])
    (cs : List Value) (hx : a.eval x = .agg cs.toArray) (hu : Try.prog.underlying t = some (.slice e)) {z : Value} {m : Nat} (hi : (Try.prog.info? e).map (fun i => (i.zero, i.size, i.bytes)) = some (some z, 2, m)) (hc : cs.length = 2)
    (h : K (a.put o.dst (.slice (some ⟨w.heap.size, 0, none⟩) 1 1)) (w.alloc (.cells cs.toArray e))) :
    if Region.wanted o (yielded ops a.tmps) = true then Oper.wp Try.prog o a w K Q else E := by
  have hw : Region.wanted o (yielded ops a.tmps) = true := by simp [Region.wanted, hgd]
  rw [if_pos hw]
  cases hi' : Try.prog.info? e with
  | none => rw [hi'] at hi; cases hi
  | some ie =>
    rw [hi'] at hi
    simp at hi
    obtain ⟨hz, hs, hb⟩ := hi
    refine wp_buildSlice t e 1 #[(0, x)] ho cs.toArray ie z hu hi' hz (by rw [hs]; omega) (by rw [hs]; omega) ?_ h
    simp only [List.map_toArray, List.map_cons, List.map_nil, hx, hs]
    exact fill_one16 2 _ cs (by simp) hc
/-- A row of spans of the call's own. -/
def So16 (B : Nat) (w : World) (v : Value) (L : List Pq2) : Prop := w.ownsRow B 59 2 v L.length (L.flatMap pc2)
theorem so_nil16 (B : Nat) (w : World) : So16 B w (.slice none 0 0) [] := ⟨rfl, .inl ⟨rfl, rfl⟩⟩
theorem wpList_app1s {w : World} {ops : Array Oper} {rest : List Oper} {o : Oper} {a : Act} {Q : Exit → Act → World → Prop} (hgd : o.guard = none) (x y : Operand)
    (ho : o.op = .call { callee := .builtin .append, args := #[x, y], argTypes := #[44, 44] })
    (B : Nat) (v : Value) (L : List Pq2) (n q : Nat) (z : Pq2) (hx : a.eval x = v) (hn : L.length = n) (hown : So16 B w v L) (hy : a.eval y = .slice (some ⟨q, 0, none⟩) 1 1) (hq : Blk w q 59 (pc2 z)) (hb : n ≤ 1000000) (hB : B ≤ w.heap.size)
    (h : ∀ A' c' w', So16 B w' (.slice A' (n + 1) c') (L ++ [z]) → Turn (fun k => v.ownBlock = some k) w w' → wpList Try.prog ops Q rest (a.put o.dst (.slice A' (n + 1) c')) w') : wpList Try.prog ops Q (o :: rest) a w := by
  subst hn
  refine wpList_app_rc hgd x y 44 ho B 59 _ 2 32 Try.underlying44 info_sp16 rfl (by decide) v L.length (L.flatMap pc2) hx hown (some ⟨q, 0, none⟩) 1 1 (pc2 z) hy rfl hq.rc (fun u hu => by simp [pc2] at hu; rcases hu with rfl | rfl <;> rfl) (by unfold maxLen; omega) (by omega) hB ?_
  intro A' c' w' h1 h2 _
  refine h A' c' w' ?_ h2
  unfold So16
  rw [List.length_append, List.flatMap_append, List.length_singleton, List.flatMap_singleton]
  exact h1
/-- What together holds: a span's box, a row of its own. -/
structure Tg16 (w X : World) (s : Pq2) (v : Value) (O : List Pq2) : Prop where
  b : Blk X w.heap.size 59 [.string s.k, .string s.v]
  o : So16 (w.heap.size + 1) X v O
  t : Turn (fun _ => False) w X
section
variable {w X X' : World} {s s' : Pq2} {v v' : Value} {O O' : List Pq2}
theorem Tg16.still (h : Tg16 w X s v O) (ht : Turn (fun _ => False) X X') : Tg16 w X' s v O := ⟨h.b.turn ht (fun e => e), own_still_ h.o ht, h.t.trans ht⟩
theorem Tg16.ow (h : Tg16 w X s v O) : ∀ k, v.ownBlock = some k → w.heap.size + 1 ≤ k ∧ k < X.heap.size := fun k hk => own_ge9 h.o k hk
theorem Tg16.app (h : Tg16 w X s v O) (ho : So16 (w.heap.size + 1) X' v' O') (ht : Turn (fun k => v.ownBlock = some k) X X') : Tg16 w X' s v' O' :=
  ⟨h.b.turn ht (fun e => by have := h.ow _ e; omega), ho, h.t.trans_new ht (fun k hk e => by have := h.ow _ e; omega)⟩
theorem Tg16.put (h : Tg16 w X s v O) (x : Pq2) : Tg16 w ((X.setCell ⟨w.heap.size, 0, none⟩ (.string x.k)).setCell ⟨w.heap.size, 1, none⟩ (.string x.v)) x v O := by
  obtain ⟨h1, h2⟩ := put2_16 h.b (.string x.k) (.string x.v)
  exact ⟨h1, own_tn16 h.o h2 (fun k hk e => by have := h.ow _ hk; omega), h.t.trans_new h2 (fun k hk e => by omega)⟩
end
theorem tog_len : ∀ (S : List Pq2) (s : Pq2), (tog16 S s).length ≤ S.length + 1
  | [], s => by simp [tog16]
  | x :: l, s => by
    unfold tog16
    split
    · have := tog_len l s; simp; omega
    · split
      · simp
      · have := tog_len l (mrg16 s x); simp; omega
theorem drop16 {α : Type} {L : List α} {i : Nat} {x : α} (h : L[i]? = some x) : L.drop i = x :: L.drop (i + 1) := by
  have hl := (List.getElem?_eq_some_iff.1 h).1
  rw [List.drop_eq_getElem_cons hl, (List.getElem?_eq_some_iff.1 h).2]
theorem flat_drop16 : ∀ (L : List Pq2) (i : Nat), (L.drop i).flatMap pc2 = (L.flatMap pc2).drop (i * 2)
  | L, 0 => by simp
  | [], i + 1 => by simp
  | x :: L, i + 1 => by
    have hx : (pc2 x).drop ((i + 1) * 2) = [] := List.drop_of_length_le (by rw [pc2_len]; omega)
    rw [List.drop_succ_cons, flat_drop16 L i, List.flatMap_cons, List.drop_append, hx, List.nil_append, pc2_len]
    congr 1
    omega
theorem Px.tail16 {w X : World} {b o n c : Nat} {L : List Pq2} (h : Px w (.slice (some ⟨b, o, none⟩) n c) L) (ht : Turn (fun _ => False) w X) (i : Nat) (hi : i < L.length ∨ True) : Rc X (some ⟨b, o + i * 2, none⟩) ((L.drop i).flatMap pc2) := by
  obtain ⟨A', c', e, hl, hr⟩ := h
  injection e with e1 _ _
  subst e1
  intro hp
  rw [flat_drop16] at hp ⊢
  rw [List.length_drop] at hp
  obtain ⟨b', o', e, hb, hc⟩ := hr (by omega)
  injection e with e
  injection e with e1 e2
  subst e1 e2
  refine ⟨b, o + i * 2, rfl, Nat.lt_of_lt_of_le hb ht.size, fun j u hj => ?_⟩
  rw [List.getElem?_drop] at hj
  rw [Nat.add_assoc, World.cell?_of_block (w := w) (a := ⟨b, o + (i * 2 + j), none⟩) (ht.block b hb (fun h => h))]
  exact hc _ u hj
set_option maxHeartbeats 8000000 in
theorem together_16 (L : List Pq2) (s0 : Pq2) (A : Option Addr) (n c : Nat) (w : World) (h : Px w (.slice A n c) L) (hn64 : n ≤ 64) (hc : n ≤ c) :
    Calls Try.prog 60 #[.slice A n c, .agg #[.string s0.k, .string s0.v]] w fun e w' => ∃ A' n' c', e = .returned (.slice A' n' c') ∧ Px w' (.slice A' n' c') (tog16 L s0) ∧ (Fw16 w.heap.size (tog16 L s0) A' ∧ n' ≤ c') ∧ Turn (fun _ => False) w w' := by
  have HN : Hid (L.length = n) := Lib.hid (by obtain ⟨_, _, e, _⟩ := id h; injection e with _ e _; exact e.symm)
  have HL := Lib.hid h
  obtain ⟨s0k, s0v⟩ := s0
  simp only
  clear h
  obtain ⟨W1, hW1⟩ : ∃ W, w.alloc (.cells #[.string s0k, .string s0v] 59) = W := ⟨_, rfl⟩
  have G1 : Hid (Tg16 w W1 ⟨s0k, s0v⟩ (.slice none 0 0) []) := Lib.hid ⟨hW1 ▸ Blk.new _ _ _, so_nil16 _ _, hW1 ▸ (Turn.refl _ _).alloc _⟩
  go_enter Try.func60, Try.ntmps60
  go_wp2_with fail
  refine wp_scope_straight ?_
  go_wp2_with fail
  try go_step3
  try go_wp2_with fail
  go_loopw [5, 6] (fun v5 v6 wr => ∃ (i : Nat) (O : List Pq2) (s : Pq2) (AO : Option Addr) (nO cO : Nat), i ≤ n ∧ v5 = .slice AO nO cO ∧ v6 = .int .i64 i ∧ Hid (O.length = nO) ∧ Hid (nO ≤ i) ∧ Hid (tog16 L ⟨s0k, s0v⟩ = O ++ tog16 (L.drop i) s) ∧ Hid (Tg16 w wr s (.slice AO nO cO) O)) (fun _ v6 _ => n - (intOf v6).toNat)
  case atStart => exact ⟨0, [], ⟨s0k, s0v⟩, none, 0, 0, Nat.zero_le _, rfl, by go_num, Lib.hid rfl, Lib.hid (Nat.le_refl _), Lib.hid rfl, G1⟩
  case round =>
    obtain ⟨i, O, ⟨sk, sv⟩, AO, nO, cO, hi, rfl, rfl, HNO, HOI, HTG, G⟩ := hrel
    obtain ⟨wx, rfl⟩ : ∃ W, W = wr := ⟨_, rfl⟩
    by_cases hlt : i < n
    · have hl1 : (i : Int) < (n : Int) := by omega
      have hl0 : (0 : Int) ≤ (i : Int) := by omega
      have hq := wrap_of ((i : Int) + 1) (by omega) (by omega)
      obtain ⟨x, hx⟩ : ∃ x, L[i]? = some x := ⟨_, List.getElem?_eq_getElem (by rw [HN.out]; exact hlt)⟩
      have HX := Lib.hid hx
      obtain ⟨b, o, rfl, hcs⟩ := HL.out.cells (by rw [HN.out]; omega)
      have HCS := Lib.hid hcs
      obtain ⟨xk, xv⟩ := x
      clear hcs hx
      go_upto_region 6 with fail
      cases hap : apt16 ⟨xk, xv⟩ ⟨sk, sv⟩ with
      | true =>
        have HAP := Lib.hid (fun W => by have := apart_16 ⟨xk, xv⟩ ⟨sk, sv⟩ W; rw [hap] at this; exact this)
        have HAPT := Lib.hid hap
        clear hap
        have T0 : Hid (Turn (fun _ => False) wx wx.drew) := Lib.hid (Turn.refl _ _).drew
        refine wp_region_noPanic ?_
        refine wp_region_held_drew (S := (fun X => Turn (fun _ => False) wx X)) (by kernel_rfl) T0.out (fun hHeld => ?_)
        clear hHeld
        refine wpAnyH_take (i := 0) (v := ?_) rfl (by kernel_rfl) (by kernel_rfl) (by kernel_rfl) (fun _ _ _ h => h) (Or.inl ⟨by rfl, ?_⟩) (by assumption) ?_
        rotate_left 1
        · intro w' hSw
          go_simp
          all_goals first | with_reducible rfl | (rw [if_neg (by omega)]; done) | (rw [if_pos (by omega)]; done)
        try simp only [List.getElem_toArray, List.getElem_cons_zero, List.getElem_cons_succ, Act.put, List.setIfInBounds_toArray, List.set_cons_zero, List.set_cons_succ]
        refine wpAnyH_take (i := 1) (v := ?_) rfl (by kernel_rfl) (by kernel_rfl) (by kernel_rfl) (fun _ _ _ h => h) (Or.inl ⟨by rfl, ?_⟩) (by assumption) ?_
        rotate_left 1
        · intro w' hSw
          go_simp
          all_goals first | with_reducible rfl | (rw [if_neg (by omega)]; done) | (rw [if_pos (by omega)]; done)
        try simp only [List.getElem_toArray, List.getElem_cons_zero, List.getElem_cons_succ, Act.put, List.setIfInBounds_toArray, List.set_cons_zero, List.set_cons_succ]
        refine wpAnyH_take (i := 2) (v := ?_) rfl (by kernel_rfl) (by kernel_rfl) (by kernel_rfl) (fun _ _ _ h => h) (Or.inl ⟨by rfl, ?_⟩) (by assumption) ?_
        rotate_left 1
        · intro w' hSw
          go_simp
          all_goals first | with_reducible rfl | (rw [if_neg (by omega)]; done) | (rw [if_pos (by omega)]; done)
        try simp only [List.getElem_toArray, List.getElem_cons_zero, List.getElem_cons_succ, Act.put, List.setIfInBounds_toArray, List.set_cons_zero, List.set_cons_succ]
        refine wpAnyH_take (i := 3) (v := ?_) rfl (by kernel_rfl) (by kernel_rfl) (by kernel_rfl) (fun _ _ _ h => h) (Or.inl ⟨by rfl, ?_⟩) (by assumption) ?_
        rotate_left 1
        · intro w' hSw
          obtain ⟨c0, c1⟩ := HCS.out _ (G.out.t.trans hSw) i _ HX.out
          simp only at c0 c1
          go_simp
          all_goals first | with_reducible rfl | (rw [if_neg (by omega)]; done) | (rw [if_pos (by omega)]; done)
        try simp only [List.getElem_toArray, List.getElem_cons_zero, List.getElem_cons_succ, Act.put, List.setIfInBounds_toArray, List.set_cons_zero, List.set_cons_succ]
        refine wpAnyH_take (i := 4) (v := ?_) rfl (by kernel_rfl) (by kernel_rfl) (by kernel_rfl) (fun _ _ _ h => h) (Or.inl ⟨by rfl, ?_⟩) (by assumption) ?_
        rotate_left 1
        · intro w' hSw
          obtain ⟨z0, z1⟩ := cells2b16 (G.out.b.turn hSw (fun h => h))
          simp only at z0 z1
          go_simp
          all_goals first | with_reducible rfl | (rw [if_neg (by omega)]; done) | (rw [if_pos (by omega)]; done)
        try simp only [List.getElem_toArray, List.getElem_cons_zero, List.getElem_cons_succ, Act.put, List.setIfInBounds_toArray, List.set_cons_zero, List.set_cons_succ]
        refine wpAnyH_ready (rs := [5]) (by kernel_rfl) (by simp) ?_
        refine AllReadyH.cons rfl (fun K hK => ?_) AllReadyH.nil
        refine step_call_on 66 Try.f66 _ _ rfl Try.func66 (by kernel_rfl) (by kernel_rfl) _ _ ((HAP.out _).mono fun e W' h => (⟨_, h.1, rfl, h.2⟩ : ∃ v, e = .returned v ∧ v = _ ∧ Turn (fun _ => False) _ W')) (by go_simp) (by rfl) ?_
        rintro v9 w6 ⟨rfl, ht9⟩
        have T6 := Lib.hid (T0.out.trans ht9)
        clear ht9
        refine hK.out _ _ T6.out (fun hHeld => ?_)
        clear hHeld hK K
        try simp only [List.getElem_toArray, List.getElem_cons_zero, List.getElem_cons_succ, Act.put, List.setIfInBounds_toArray, List.set_cons_zero, List.set_cons_succ]
        refine wpAnyH_take (i := 6) (v := ?_) rfl (by kernel_rfl) (by kernel_rfl) (by kernel_rfl) (fun _ _ _ h => h) (Or.inl ⟨by rfl, ?_⟩) (by assumption) ?_
        rotate_left 1
        · intro w' hSw
          go_simp
          all_goals first | with_reducible rfl | (rw [if_neg (by omega)]; done) | (rw [if_pos (by omega)]; done)
        try simp only [List.getElem_toArray, List.getElem_cons_zero, List.getElem_cons_succ, Act.put, List.setIfInBounds_toArray, List.set_cons_zero, List.set_cons_succ]
        refine wpAnyH_done (by kernel_rfl) ?_ _
        refine NoPanic.normal ?_
        have G6 := Lib.hid (G.out.still T6.out)
        obtain ⟨c0, c1⟩ := HCS.out _ G6.out.t i _ HX.out
        simp only at c0 c1
        go_wp2_with (at_builtin; refine wpList_app1s rfl _ _ rfl (w.heap.size + 1) (.slice AO nO cO) O nO w6.heap.size ⟨xk, xv⟩ rfl HNO.out (G6.out.still ((Turn.refl _ _).alloc (.cells #[.string xk, .string xv] 59))).o rfl (Blk.new_ w6 59 [.string xk, .string xv] rfl) (by have := HOI.out; omega) (by have := (G6.out.still ((Turn.refl _ _).alloc (.cells #[.string xk, .string xv] 59))).b.lt; omega) ?_; intro A7 c7 w7 ho7 ht7; have G7 := Lib.hid ((G6.out.still ((Turn.refl _ _).alloc (.cells #[.string xk, .string xv] 59))).app ho7 ht7); clear ho7 ht7)
        refine ⟨⟨i + 1, O ++ [⟨xk, xv⟩], ⟨sk, sv⟩, A7, nO + 1, c7, by omega, rfl, by go_num, Lib.hid (by rw [List.length_append, HNO.out]; rfl), Lib.hid (by have := HOI.out; omega), Lib.hid (by
          rw [HTG.out, drop16 HX.out, tog16, if_pos HAPT.out, List.append_assoc]; rfl), G7⟩, ?_⟩
        simp [intOf]
        omega
      | false =>
        have HAP := Lib.hid (fun W => by have := apart_16 ⟨xk, xv⟩ ⟨sk, sv⟩ W; rw [hap] at this; exact this)
        have HAPT := Lib.hid hap
        clear hap
        have T0 : Hid (Turn (fun _ => False) wx wx.drew) := Lib.hid (Turn.refl _ _).drew
        refine wp_region_noPanic ?_
        refine wp_region_held_drew (S := (fun X => Turn (fun _ => False) wx X)) (by kernel_rfl) T0.out (fun hHeld => ?_)
        clear hHeld
        refine wpAnyH_take (i := 0) (v := ?_) rfl (by kernel_rfl) (by kernel_rfl) (by kernel_rfl) (fun _ _ _ h => h) (Or.inl ⟨by rfl, ?_⟩) (by assumption) ?_
        rotate_left 1
        · intro w' hSw
          go_simp
          all_goals first | with_reducible rfl | (rw [if_neg (by omega)]; done) | (rw [if_pos (by omega)]; done)
        try simp only [List.getElem_toArray, List.getElem_cons_zero, List.getElem_cons_succ, Act.put, List.setIfInBounds_toArray, List.set_cons_zero, List.set_cons_succ]
        refine wpAnyH_take (i := 1) (v := ?_) rfl (by kernel_rfl) (by kernel_rfl) (by kernel_rfl) (fun _ _ _ h => h) (Or.inl ⟨by rfl, ?_⟩) (by assumption) ?_
        rotate_left 1
        · intro w' hSw
          go_simp
          all_goals first | with_reducible rfl | (rw [if_neg (by omega)]; done) | (rw [if_pos (by omega)]; done)
        try simp only [List.getElem_toArray, List.getElem_cons_zero, List.getElem_cons_succ, Act.put, List.setIfInBounds_toArray, List.set_cons_zero, List.set_cons_succ]
        refine wpAnyH_take (i := 2) (v := ?_) rfl (by kernel_rfl) (by kernel_rfl) (by kernel_rfl) (fun _ _ _ h => h) (Or.inl ⟨by rfl, ?_⟩) (by assumption) ?_
        rotate_left 1
        · intro w' hSw
          go_simp
          all_goals first | with_reducible rfl | (rw [if_neg (by omega)]; done) | (rw [if_pos (by omega)]; done)
        try simp only [List.getElem_toArray, List.getElem_cons_zero, List.getElem_cons_succ, Act.put, List.setIfInBounds_toArray, List.set_cons_zero, List.set_cons_succ]
        refine wpAnyH_take (i := 3) (v := ?_) rfl (by kernel_rfl) (by kernel_rfl) (by kernel_rfl) (fun _ _ _ h => h) (Or.inl ⟨by rfl, ?_⟩) (by assumption) ?_
        rotate_left 1
        · intro w' hSw
          obtain ⟨c0, c1⟩ := HCS.out _ (G.out.t.trans hSw) i _ HX.out
          simp only at c0 c1
          go_simp
          all_goals first | with_reducible rfl | (rw [if_neg (by omega)]; done) | (rw [if_pos (by omega)]; done)
        try simp only [List.getElem_toArray, List.getElem_cons_zero, List.getElem_cons_succ, Act.put, List.setIfInBounds_toArray, List.set_cons_zero, List.set_cons_succ]
        refine wpAnyH_take (i := 4) (v := ?_) rfl (by kernel_rfl) (by kernel_rfl) (by kernel_rfl) (fun _ _ _ h => h) (Or.inl ⟨by rfl, ?_⟩) (by assumption) ?_
        rotate_left 1
        · intro w' hSw
          obtain ⟨z0, z1⟩ := cells2b16 (G.out.b.turn hSw (fun h => h))
          simp only at z0 z1
          go_simp
          all_goals first | with_reducible rfl | (rw [if_neg (by omega)]; done) | (rw [if_pos (by omega)]; done)
        try simp only [List.getElem_toArray, List.getElem_cons_zero, List.getElem_cons_succ, Act.put, List.setIfInBounds_toArray, List.set_cons_zero, List.set_cons_succ]
        refine wpAnyH_ready (rs := [5]) (by kernel_rfl) (by simp) ?_
        refine AllReadyH.cons rfl (fun K hK => ?_) AllReadyH.nil
        refine step_call_on 66 Try.f66 _ _ rfl Try.func66 (by kernel_rfl) (by kernel_rfl) _ _ ((HAP.out _).mono fun e W' h => (⟨_, h.1, rfl, h.2⟩ : ∃ v, e = .returned v ∧ v = _ ∧ Turn (fun _ => False) _ W')) (by go_simp) (by rfl) ?_
        rintro v9 w6 ⟨rfl, ht9⟩
        have T6 := Lib.hid (T0.out.trans ht9)
        clear ht9
        refine hK.out _ _ T6.out (fun hHeld => ?_)
        clear hHeld hK K
        try simp only [List.getElem_toArray, List.getElem_cons_zero, List.getElem_cons_succ, Act.put, List.setIfInBounds_toArray, List.set_cons_zero, List.set_cons_succ]
        refine wpAnyH_take (i := 6) (v := ?_) rfl (by kernel_rfl) (by kernel_rfl) (by kernel_rfl) (fun _ _ _ h => h) (Or.inl ⟨by rfl, ?_⟩) (by assumption) ?_
        rotate_left 1
        · intro w' hSw
          go_simp
          all_goals first | with_reducible rfl | (rw [if_neg (by omega)]; done) | (rw [if_pos (by omega)]; done)
        try simp only [List.getElem_toArray, List.getElem_cons_zero, List.getElem_cons_succ, Act.put, List.setIfInBounds_toArray, List.set_cons_zero, List.set_cons_succ]
        refine wpAnyH_done (by kernel_rfl) ?_ _
        refine NoPanic.normal ?_
        have G6 := Lib.hid (G.out.still T6.out)
        go_upto_region 8 with fail
        cases haq : apt16 ⟨sk, sv⟩ ⟨xk, xv⟩ with
        | true =>
          have HAQ := Lib.hid (fun W => by have := apart_16 ⟨sk, sv⟩ ⟨xk, xv⟩ W; rw [haq] at this; exact this)
          have HAQT := Lib.hid haq
          clear haq
          have U0 : Hid (Turn (fun _ => False) w6 w6.drew) := Lib.hid (Turn.refl _ _).drew
          refine wp_region_noPanic ?_
          refine wp_region_held_drew (S := (fun X => Turn (fun _ => False) w6 X)) (by kernel_rfl) U0.out (fun hHeld => ?_)
          clear hHeld
          refine wpAnyH_take (i := 0) (v := ?_) rfl (by kernel_rfl) (by kernel_rfl) (by kernel_rfl) (fun _ _ _ h => h) (Or.inl ⟨by rfl, ?_⟩) (by assumption) ?_
          rotate_left 1
          · intro w' hSw
            obtain ⟨z0, z1⟩ := cells2b16 (G6.out.b.turn hSw (fun h => h))
            simp only at z0 z1
            go_simp
            all_goals first | with_reducible rfl | (rw [if_neg (by omega)]; done) | (rw [if_pos (by omega)]; done)
          try simp only [List.getElem_toArray, List.getElem_cons_zero, List.getElem_cons_succ, Act.put, List.setIfInBounds_toArray, List.set_cons_zero, List.set_cons_succ]
          refine wpAnyH_take (i := 1) (v := ?_) rfl (by kernel_rfl) (by kernel_rfl) (by kernel_rfl) (fun _ _ _ h => h) (Or.inl ⟨by rfl, ?_⟩) (by assumption) ?_
          rotate_left 1
          · intro w' hSw
            go_simp
            all_goals first | with_reducible rfl | (rw [if_neg (by omega)]; done) | (rw [if_pos (by omega)]; done)
          try simp only [List.getElem_toArray, List.getElem_cons_zero, List.getElem_cons_succ, Act.put, List.setIfInBounds_toArray, List.set_cons_zero, List.set_cons_succ]
          refine wpAnyH_take (i := 2) (v := ?_) rfl (by kernel_rfl) (by kernel_rfl) (by kernel_rfl) (fun _ _ _ h => h) (Or.inl ⟨by rfl, ?_⟩) (by assumption) ?_
          rotate_left 1
          · intro w' hSw
            go_simp
            all_goals first | with_reducible rfl | (rw [if_neg (by omega)]; done) | (rw [if_pos (by omega)]; done)
          try simp only [List.getElem_toArray, List.getElem_cons_zero, List.getElem_cons_succ, Act.put, List.setIfInBounds_toArray, List.set_cons_zero, List.set_cons_succ]
          refine wpAnyH_take (i := 3) (v := ?_) rfl (by kernel_rfl) (by kernel_rfl) (by kernel_rfl) (fun _ _ _ h => h) (Or.inl ⟨by rfl, ?_⟩) (by assumption) ?_
          rotate_left 1
          · intro w' hSw
            go_simp
            all_goals first | with_reducible rfl | (rw [if_neg (by omega)]; done) | (rw [if_pos (by omega)]; done)
          try simp only [List.getElem_toArray, List.getElem_cons_zero, List.getElem_cons_succ, Act.put, List.setIfInBounds_toArray, List.set_cons_zero, List.set_cons_succ]
          refine wpAnyH_take (i := 4) (v := ?_) rfl (by kernel_rfl) (by kernel_rfl) (by kernel_rfl) (fun _ _ _ h => h) (Or.inl ⟨by rfl, ?_⟩) (by assumption) ?_
          rotate_left 1
          · intro w' hSw
            obtain ⟨c0, c1⟩ := HCS.out _ (G6.out.t.trans hSw) i _ HX.out
            simp only at c0 c1
            go_simp
            all_goals first | with_reducible rfl | (rw [if_neg (by omega)]; done) | (rw [if_pos (by omega)]; done)
          try simp only [List.getElem_toArray, List.getElem_cons_zero, List.getElem_cons_succ, Act.put, List.setIfInBounds_toArray, List.set_cons_zero, List.set_cons_succ]
          refine wpAnyH_ready (rs := [5]) (by kernel_rfl) (by simp) ?_
          refine AllReadyH.cons rfl (fun K hK => ?_) AllReadyH.nil
          refine step_call_on 66 Try.f66 _ _ rfl Try.func66 (by kernel_rfl) (by kernel_rfl) _ _ ((HAQ.out _).mono fun e W' h => (⟨_, h.1, rfl, h.2⟩ : ∃ v, e = .returned v ∧ v = _ ∧ Turn (fun _ => False) _ W')) (by go_simp) (by rfl) ?_
          rintro v9 w8 ⟨rfl, ht9⟩
          have U8 := Lib.hid (U0.out.trans ht9)
          clear ht9
          refine hK.out _ _ U8.out (fun hHeld => ?_)
          clear hHeld hK K
          try simp only [List.getElem_toArray, List.getElem_cons_zero, List.getElem_cons_succ, Act.put, List.setIfInBounds_toArray, List.set_cons_zero, List.set_cons_succ]
          refine wpAnyH_take (i := 6) (v := ?_) rfl (by kernel_rfl) (by kernel_rfl) (by kernel_rfl) (fun _ _ _ h => h) (Or.inl ⟨by rfl, ?_⟩) (by assumption) ?_
          rotate_left 1
          · intro w' hSw
            go_simp
            all_goals first | with_reducible rfl | (rw [if_neg (by omega)]; done) | (rw [if_pos (by omega)]; done)
          try simp only [List.getElem_toArray, List.getElem_cons_zero, List.getElem_cons_succ, Act.put, List.setIfInBounds_toArray, List.set_cons_zero, List.set_cons_succ]
          refine wpAnyH_done (by kernel_rfl) ?_ _
          refine NoPanic.normal ?_
          have G8 := Lib.hid (G6.out.still U8.out)
          have HT9 : Hid (tog16 L ⟨s0k, s0v⟩ = O ++ ⟨sk, sv⟩ :: L.drop i) := Lib.hid (by
            rw [HTG.out, drop16 HX.out, tog16, if_neg (by rw [HAPT.out]; decide), if_pos HAQT.out])
          have G9 := Lib.hid G8.out
          go_upto_region 9 with fail
          have hci : ¬ c = i := by omega
          have hi2 : i ≤ c := by omega
          have VY : Hid (Turn (fun k => w.heap.size < k) w8 w8.drew) := Lib.hid (Turn.refl _ _).drew
          refine wp_region_noPanic ?_
          refine wp_region_held_drew (S := (fun X => Turn (fun k => w.heap.size < k) w8 X)) (by kernel_rfl) VY.out (fun hHeld => ?_)
          clear hHeld
          refine wpAnyH_take (i := 0) (v := ?_) rfl (by kernel_rfl) (by kernel_rfl) (by kernel_rfl) (fun _ _ _ h => h) (Or.inl ⟨by rfl, ?_⟩) (by assumption) ?_
          rotate_left 1
          · intro w' hSw
            go_simp
            all_goals first | with_reducible rfl | (rw [if_neg (by omega)]; done) | (rw [if_pos (by omega)]; done)
          try simp only [List.getElem_toArray, List.getElem_cons_zero, List.getElem_cons_succ, Act.put, List.setIfInBounds_toArray, List.set_cons_zero, List.set_cons_succ]
          refine wpAnyH_take (i := 1) (v := ?_) rfl (by kernel_rfl) (by kernel_rfl) (by kernel_rfl) (fun _ _ _ h => h) (Or.inl ⟨by rfl, ?_⟩) (by assumption) ?_
          rotate_left 1
          · intro w' hSw
            obtain ⟨z0, z1⟩ := cells2b16 (G9.out.b.turn hSw (fun h => by omega))
            simp only at z0 z1
            go_simp
            all_goals first | with_reducible rfl | (rw [if_neg (by omega)]; done) | (rw [if_pos (by omega)]; done)
          try simp only [List.getElem_toArray, List.getElem_cons_zero, List.getElem_cons_succ, Act.put, List.setIfInBounds_toArray, List.set_cons_zero, List.set_cons_succ]
          refine wpAnyH_take (i := 4) (v := ?_) rfl (by kernel_rfl) (by kernel_rfl) (by kernel_rfl) (fun _ _ _ h => h) (Or.inl ⟨by rfl, ?_⟩) (by assumption) ?_
          rotate_left 1
          · intro w' hSw
            go_simp
            all_goals first | with_reducible rfl | (rw [if_neg (by omega)]; done) | (rw [if_pos (by omega)]; done)
          try simp only [List.getElem_toArray, List.getElem_cons_zero, List.getElem_cons_succ, Act.put, List.setIfInBounds_toArray, List.set_cons_zero, List.set_cons_succ]
          refine wpAnyH_take (i := 5) (v := ?_) rfl (by kernel_rfl) (by kernel_rfl) (by kernel_rfl) (fun _ _ _ h => h) (Or.inl ⟨by rfl, ?_⟩) (by assumption) ?_
          rotate_left 1
          · intro w' hSw
            go_simp
            all_goals first | with_reducible rfl | (rw [if_neg (by omega)]; done) | (rw [if_pos (by omega)]; done)
          try simp only [List.getElem_toArray, List.getElem_cons_zero, List.getElem_cons_succ, Act.put, List.setIfInBounds_toArray, List.set_cons_zero, List.set_cons_succ]
          refine wpAnyH_take (i := 6) (v := ?_) rfl (by kernel_rfl) (by kernel_rfl) (by kernel_rfl) (fun _ _ _ h => h) (Or.inl ⟨by rfl, ?_⟩) (by assumption) ?_
          rotate_left 1
          · intro w' hSw
            go_simp
            all_goals first | with_reducible rfl | (rw [if_neg (by omega)]; done) | (rw [if_pos (by omega)]; done)
          try simp only [List.getElem_toArray, List.getElem_cons_zero, List.getElem_cons_succ, Act.put, List.setIfInBounds_toArray, List.set_cons_zero, List.set_cons_succ]
          refine wpAnyH_ready (rs := [2]) (by kernel_rfl) (by simp) ?_
          refine AllReadyH.cons rfl (fun K hK => ?_) AllReadyH.nil
          refine step_build16 rfl 44 59 _ rfl [.string sk, .string sv] (by rfl) Try.underlying44 info_sp16 rfl ?_
          have NB : Hid (Blk (w8.drew.alloc (.cells #[.string sk, .string sv] 59)) w8.drew.heap.size 59 (pc2 ⟨sk, sv⟩)) := Lib.hid (Blk.new _ _ _)
          have GB := Lib.hid ((G9.out.still (Turn.refl _ _).drew).still ((Turn.refl _ _).alloc (.cells #[.string sk, .string sv] 59)))
          have VB : Hid (Turn (fun k => w.heap.size < k) w8 (w8.drew.alloc (.cells #[.string sk, .string sv] 59))) := Lib.hid ((Turn.refl _ _).drew.alloc _)
          refine hK.out _ _ VB.out (fun hHeld => ?_)
          clear hHeld hK K
          try simp only [List.getElem_toArray, List.getElem_cons_zero, List.getElem_cons_succ, Act.put, List.setIfInBounds_toArray, List.set_cons_zero, List.set_cons_succ]
          refine wpAnyH_ready (rs := [3]) (by kernel_rfl) (by simp) ?_
          refine AllReadyH.cons rfl (fun K hK => ?_) AllReadyH.nil
          refine step_app_rc16 rfl _ _ 44 rfl (w.heap.size + 1) 59 _ 2 32 Try.underlying44 info_sp16 rfl (by decide) (.slice AO nO cO) nO (O.flatMap pc2) rfl (by have := GB.out.o; unfold So16 at this; rw [HNO.out] at this; exact this) (some ⟨w8.drew.heap.size, 0, none⟩) 1 1 (pc2 ⟨sk, sv⟩) rfl rfl NB.out.rc (fun u hu => by simp [pc2] at hu; rcases hu with rfl | rfl <;> rfl) (by have := HOI.out; unfold maxLen; omega) (by have := HOI.out; omega) (by have := GB.out.b.lt; omega) ?_
          intro A7 c7 w7 ho7 ht7
          have O7 := Lib.hid ho7
          have VC : Hid (Turn (fun k => w.heap.size < k) w8 w7) := Lib.hid (VB.out.trans (ht7.mono (fun k _ e => by have := GB.out.ow _ e; omega)))
          have D7 : Hid (Turn (fun _ => False) w w7) := Lib.hid (G9.out.t.trans_new VC.out (fun k hk e => by omega))
          clear ho7 ht7
          refine hK.out _ _ VC.out (fun hHeld => ?_)
          clear hHeld hK K
          try simp only [List.getElem_toArray, List.getElem_cons_zero, List.getElem_cons_succ, Act.put, List.setIfInBounds_toArray, List.set_cons_zero, List.set_cons_succ]
          refine wpAnyH_ready (rs := [7]) (by kernel_rfl) (by simp) ?_
          refine AllReadyH.cons rfl (fun K hK => ?_) AllReadyH.nil
          refine step_app_rc16 rfl _ _ 44 rfl (w.heap.size + 1) 59 _ 2 32 Try.underlying44 info_sp16 rfl (by decide) (.slice A7 (nO + 1) c7) (nO + 1) (O.flatMap pc2 ++ pc2 ⟨sk, sv⟩) rfl O7.out (some ⟨b, o + i * 2, none⟩) (n - i) (c - i) ((L.drop i).flatMap pc2) rfl (by rw [flat_len pc2_len, List.length_drop, HN.out]) (HL.out.tail16 D7.out i (.inr trivial)) (pc2_one _) (by have := HOI.out; unfold maxLen; omega) (by have := HOI.out; omega) (by have := VC.out.size; have := G9.out.b.lt; omega) ?_
          intro A8 c8 wA ho8 ht8
          have hge : ∀ k, (Value.slice A7 (nO + 1) c7).ownBlock = some k → w.heap.size < k := fun k e => by have := (own_ge9 O7.out k e).1; omega
          have O8 := Lib.hid ho8
          have VZ : Hid (Turn (fun k => w.heap.size < k) w8 wA) := Lib.hid (VC.out.trans (ht8.mono (fun k _ e => hge k e)))
          have D8 : Hid (Turn (fun _ => False) w wA) := Lib.hid (G9.out.t.trans_new VZ.out (fun k hk e => by omega))
          clear ho8 ht8 hge
          refine hK.out _ _ VZ.out (fun hHeld => ?_)
          clear hHeld hK K
          try simp only [List.getElem_toArray, List.getElem_cons_zero, List.getElem_cons_succ, Act.put, List.setIfInBounds_toArray, List.set_cons_zero, List.set_cons_succ]
          refine wpAnyH_take (i := 8) (v := ?_) rfl (by kernel_rfl) (by kernel_rfl) (by kernel_rfl) (fun _ _ _ h => h) (Or.inl ⟨by rfl, ?_⟩) (by assumption) ?_
          rotate_left 1
          · intro w' hSw
            go_simp
            all_goals first | with_reducible rfl | (rw [if_neg (by omega)]; done) | (rw [if_pos (by omega)]; done)
          try simp only [List.getElem_toArray, List.getElem_cons_zero, List.getElem_cons_succ, Act.put, List.setIfInBounds_toArray, List.set_cons_zero, List.set_cons_succ]
          refine wpAnyH_done (by kernel_rfl) ?_ _
          refine NoPanic.normal ?_
          go_wp2_with fail
          try simp only [Exit.noGoto_ret]
          go_ret
          have hlen : (tog16 L ⟨s0k, s0v⟩).length = nO + 1 + (n - i) := by
            rw [HT9.out, List.length_append, List.length_cons, List.length_drop, HN.out, HNO.out]
            omega
          have hfl : O.flatMap pc2 ++ pc2 ⟨sk, sv⟩ ++ (L.drop i).flatMap pc2 = (tog16 L ⟨s0k, s0v⟩).flatMap pc2 := by
            rw [HT9.out, List.flatMap_append, List.flatMap_cons, List.append_assoc]
          have ho := O8.out
          rw [hfl] at ho
          refine ⟨A8, nO + 1 + (n - i), c8, rfl, ⟨A8, c8, by rw [hlen], by rw [hlen]; have := HOI.out; omega, rc_own ho⟩, ⟨fun hp a e => ?_, own_cap16 ho⟩, D8.out⟩
          have := (own_ge9 ho a.block (by rw [e]; rfl)).1
          omega
        | false =>
          have HAQ := Lib.hid (fun W => by have := apart_16 ⟨sk, sv⟩ ⟨xk, xv⟩ W; rw [haq] at this; exact this)
          have HAQT := Lib.hid haq
          clear haq
          have U0 : Hid (Turn (fun _ => False) w6 w6.drew) := Lib.hid (Turn.refl _ _).drew
          refine wp_region_noPanic ?_
          refine wp_region_held_drew (S := (fun X => Turn (fun _ => False) w6 X)) (by kernel_rfl) U0.out (fun hHeld => ?_)
          clear hHeld
          refine wpAnyH_take (i := 0) (v := ?_) rfl (by kernel_rfl) (by kernel_rfl) (by kernel_rfl) (fun _ _ _ h => h) (Or.inl ⟨by rfl, ?_⟩) (by assumption) ?_
          rotate_left 1
          · intro w' hSw
            obtain ⟨z0, z1⟩ := cells2b16 (G6.out.b.turn hSw (fun h => h))
            simp only at z0 z1
            go_simp
            all_goals first | with_reducible rfl | (rw [if_neg (by omega)]; done) | (rw [if_pos (by omega)]; done)
          try simp only [List.getElem_toArray, List.getElem_cons_zero, List.getElem_cons_succ, Act.put, List.setIfInBounds_toArray, List.set_cons_zero, List.set_cons_succ]
          refine wpAnyH_take (i := 1) (v := ?_) rfl (by kernel_rfl) (by kernel_rfl) (by kernel_rfl) (fun _ _ _ h => h) (Or.inl ⟨by rfl, ?_⟩) (by assumption) ?_
          rotate_left 1
          · intro w' hSw
            go_simp
            all_goals first | with_reducible rfl | (rw [if_neg (by omega)]; done) | (rw [if_pos (by omega)]; done)
          try simp only [List.getElem_toArray, List.getElem_cons_zero, List.getElem_cons_succ, Act.put, List.setIfInBounds_toArray, List.set_cons_zero, List.set_cons_succ]
          refine wpAnyH_take (i := 2) (v := ?_) rfl (by kernel_rfl) (by kernel_rfl) (by kernel_rfl) (fun _ _ _ h => h) (Or.inl ⟨by rfl, ?_⟩) (by assumption) ?_
          rotate_left 1
          · intro w' hSw
            go_simp
            all_goals first | with_reducible rfl | (rw [if_neg (by omega)]; done) | (rw [if_pos (by omega)]; done)
          try simp only [List.getElem_toArray, List.getElem_cons_zero, List.getElem_cons_succ, Act.put, List.setIfInBounds_toArray, List.set_cons_zero, List.set_cons_succ]
          refine wpAnyH_take (i := 3) (v := ?_) rfl (by kernel_rfl) (by kernel_rfl) (by kernel_rfl) (fun _ _ _ h => h) (Or.inl ⟨by rfl, ?_⟩) (by assumption) ?_
          rotate_left 1
          · intro w' hSw
            go_simp
            all_goals first | with_reducible rfl | (rw [if_neg (by omega)]; done) | (rw [if_pos (by omega)]; done)
          try simp only [List.getElem_toArray, List.getElem_cons_zero, List.getElem_cons_succ, Act.put, List.setIfInBounds_toArray, List.set_cons_zero, List.set_cons_succ]
          refine wpAnyH_take (i := 4) (v := ?_) rfl (by kernel_rfl) (by kernel_rfl) (by kernel_rfl) (fun _ _ _ h => h) (Or.inl ⟨by rfl, ?_⟩) (by assumption) ?_
          rotate_left 1
          · intro w' hSw
            obtain ⟨c0, c1⟩ := HCS.out _ (G6.out.t.trans hSw) i _ HX.out
            simp only at c0 c1
            go_simp
            all_goals first | with_reducible rfl | (rw [if_neg (by omega)]; done) | (rw [if_pos (by omega)]; done)
          try simp only [List.getElem_toArray, List.getElem_cons_zero, List.getElem_cons_succ, Act.put, List.setIfInBounds_toArray, List.set_cons_zero, List.set_cons_succ]
          refine wpAnyH_ready (rs := [5]) (by kernel_rfl) (by simp) ?_
          refine AllReadyH.cons rfl (fun K hK => ?_) AllReadyH.nil
          refine step_call_on 66 Try.f66 _ _ rfl Try.func66 (by kernel_rfl) (by kernel_rfl) _ _ ((HAQ.out _).mono fun e W' h => (⟨_, h.1, rfl, h.2⟩ : ∃ v, e = .returned v ∧ v = _ ∧ Turn (fun _ => False) _ W')) (by go_simp) (by rfl) ?_
          rintro v9 w8 ⟨rfl, ht9⟩
          have U8 := Lib.hid (U0.out.trans ht9)
          clear ht9
          refine hK.out _ _ U8.out (fun hHeld => ?_)
          clear hHeld hK K
          try simp only [List.getElem_toArray, List.getElem_cons_zero, List.getElem_cons_succ, Act.put, List.setIfInBounds_toArray, List.set_cons_zero, List.set_cons_succ]
          refine wpAnyH_take (i := 6) (v := ?_) rfl (by kernel_rfl) (by kernel_rfl) (by kernel_rfl) (fun _ _ _ h => h) (Or.inl ⟨by rfl, ?_⟩) (by assumption) ?_
          rotate_left 1
          · intro w' hSw
            go_simp
            all_goals first | with_reducible rfl | (rw [if_neg (by omega)]; done) | (rw [if_pos (by omega)]; done)
          try simp only [List.getElem_toArray, List.getElem_cons_zero, List.getElem_cons_succ, Act.put, List.setIfInBounds_toArray, List.set_cons_zero, List.set_cons_succ]
          refine wpAnyH_done (by kernel_rfl) ?_ _
          refine NoPanic.normal ?_
          have G8 := Lib.hid (G6.out.still U8.out)
          go_upto_region 5 with fail
          have GD : Hid (Tg16 w w8.drew ⟨sk, sv⟩ (.slice AO nO cO) O) := Lib.hid (G8.out.still (Turn.refl _ _).drew)
          have VD : Hid (Turn (fun k => k = w.heap.size) w8 w8.drew) := Lib.hid (Turn.refl _ _).drew
          refine wp_region_noPanic ?_
          refine wp_region_held_drew (S := (fun X => Turn (fun k => k = w.heap.size) w8 X)) (by kernel_rfl) VD.out (fun hHeld => ?_)
          clear hHeld
          refine wpAnyH_take (i := 0) (v := ?_) rfl (by kernel_rfl) (by kernel_rfl) (by kernel_rfl) (fun _ _ _ h => h) (Or.inl ⟨by rfl, ?_⟩) (by assumption) ?_
          rotate_left 1
          · intro w' hSw
            go_simp
            all_goals first | with_reducible rfl | (rw [if_neg (by omega)]; done) | (rw [if_pos (by omega)]; done)
          try simp only [List.getElem_toArray, List.getElem_cons_zero, List.getElem_cons_succ, Act.put, List.setIfInBounds_toArray, List.set_cons_zero, List.set_cons_succ]
          refine wpAnyH_take (i := 2) (v := ?_) rfl (by kernel_rfl) (by kernel_rfl) (by kernel_rfl) (fun _ _ _ h => h) (Or.inl ⟨by rfl, ?_⟩) (by assumption) ?_
          rotate_left 1
          · intro w' hSw
            go_simp
            all_goals first | with_reducible rfl | (rw [if_neg (by omega)]; done) | (rw [if_pos (by omega)]; done)
          try simp only [List.getElem_toArray, List.getElem_cons_zero, List.getElem_cons_succ, Act.put, List.setIfInBounds_toArray, List.set_cons_zero, List.set_cons_succ]
          refine wpAnyH_take (i := 3) (v := ?_) rfl (by kernel_rfl) (by kernel_rfl) (by kernel_rfl) (fun _ _ _ h => h) (Or.inl ⟨by rfl, ?_⟩) (by assumption) ?_
          rotate_left 1
          · intro w' hSw
            go_simp
            all_goals first | with_reducible rfl | (rw [if_neg (by omega)]; done) | (rw [if_pos (by omega)]; done)
          try simp only [List.getElem_toArray, List.getElem_cons_zero, List.getElem_cons_succ, Act.put, List.setIfInBounds_toArray, List.set_cons_zero, List.set_cons_succ]
          refine wpAnyH_take (i := 4) (v := ?_) rfl (by kernel_rfl) (by kernel_rfl) (by kernel_rfl) (fun _ _ _ h => h) (Or.inl ⟨by rfl, ?_⟩) (by assumption) ?_
          rotate_left 1
          · intro w' hSw
            go_simp
            all_goals first | with_reducible rfl | (rw [if_neg (by omega)]; done) | (rw [if_pos (by omega)]; done)
          try simp only [List.getElem_toArray, List.getElem_cons_zero, List.getElem_cons_succ, Act.put, List.setIfInBounds_toArray, List.set_cons_zero, List.set_cons_succ]
          refine wpAnyH_take (i := 5) (v := ?_) rfl (by kernel_rfl) (by kernel_rfl) (by kernel_rfl) (fun _ _ _ h => h) (Or.inl ⟨by rfl, ?_⟩) (by assumption) ?_
          rotate_left 1
          · intro w' hSw
            go_simp
            all_goals first | with_reducible rfl | (rw [if_neg (by omega)]; done) | (rw [if_pos (by omega)]; done)
          try simp only [List.getElem_toArray, List.getElem_cons_zero, List.getElem_cons_succ, Act.put, List.setIfInBounds_toArray, List.set_cons_zero, List.set_cons_succ]
          refine wpAnyH_take (i := 6) (v := ?_) rfl (by kernel_rfl) (by kernel_rfl) (by kernel_rfl) (fun _ _ _ h => h) (Or.inl ⟨by rfl, ?_⟩) (by assumption) ?_
          rotate_left 1
          · intro w' hSw
            obtain ⟨c0, c1⟩ := HCS.out _ (G8.out.t.trans_new hSw (fun k hk e => by omega)) i _ HX.out
            simp only at c0 c1
            go_simp
            all_goals first | with_reducible rfl | (rw [if_neg (by omega)]; done) | (rw [if_pos (by omega)]; done)
          try simp only [List.getElem_toArray, List.getElem_cons_zero, List.getElem_cons_succ, Act.put, List.setIfInBounds_toArray, List.set_cons_zero, List.set_cons_succ]
          refine wpAnyH_take (i := 8) (v := ?_) rfl (by kernel_rfl) (by kernel_rfl) (by kernel_rfl) (fun _ _ _ h => h) (Or.inl ⟨by rfl, ?_⟩) (by assumption) ?_
          rotate_left 1
          · intro w' hSw
            go_simp
            all_goals first | with_reducible rfl | (rw [if_neg (by omega)]; done) | (rw [if_pos (by omega)]; done)
          try simp only [List.getElem_toArray, List.getElem_cons_zero, List.getElem_cons_succ, Act.put, List.setIfInBounds_toArray, List.set_cons_zero, List.set_cons_succ]
          refine wpAnyH_take (i := 10) (v := ?_) rfl (by kernel_rfl) (by kernel_rfl) (by kernel_rfl) (fun _ _ _ h => h) (Or.inl ⟨by rfl, ?_⟩) (by assumption) ?_
          rotate_left 1
          · intro w' hSw
            go_simp
            all_goals first | with_reducible rfl | (rw [if_neg (by omega)]; done) | (rw [if_pos (by omega)]; done)
          try simp only [List.getElem_toArray, List.getElem_cons_zero, List.getElem_cons_succ, Act.put, List.setIfInBounds_toArray, List.set_cons_zero, List.set_cons_succ]
          refine wpAnyH_take (i := 11) (v := ?_) rfl (by kernel_rfl) (by kernel_rfl) (by kernel_rfl) (fun _ _ _ h => h) (Or.inl ⟨by rfl, ?_⟩) (by assumption) ?_
          rotate_left 1
          · intro w' hSw
            go_simp
            all_goals first | with_reducible rfl | (rw [if_neg (by omega)]; done) | (rw [if_pos (by omega)]; done)
          try simp only [List.getElem_toArray, List.getElem_cons_zero, List.getElem_cons_succ, Act.put, List.setIfInBounds_toArray, List.set_cons_zero, List.set_cons_succ]
          refine wpAnyH_take (i := 12) (v := ?_) rfl (by kernel_rfl) (by kernel_rfl) (by kernel_rfl) (fun _ _ _ h => h) (Or.inl ⟨by rfl, ?_⟩) (by assumption) ?_
          rotate_left 1
          · intro w' hSw
            go_simp
            all_goals first | with_reducible rfl | (rw [if_neg (by omega)]; done) | (rw [if_pos (by omega)]; done)
          try simp only [List.getElem_toArray, List.getElem_cons_zero, List.getElem_cons_succ, Act.put, List.setIfInBounds_toArray, List.set_cons_zero, List.set_cons_succ]
          refine wpAnyH_take (i := 13) (v := ?_) rfl (by kernel_rfl) (by kernel_rfl) (by kernel_rfl) (fun _ _ _ h => h) (Or.inl ⟨by rfl, ?_⟩) (by assumption) ?_
          rotate_left 1
          · intro w' hSw
            go_simp
            all_goals first | with_reducible rfl | (rw [if_neg (by omega)]; done) | (rw [if_pos (by omega)]; done)
          try simp only [List.getElem_toArray, List.getElem_cons_zero, List.getElem_cons_succ, Act.put, List.setIfInBounds_toArray, List.set_cons_zero, List.set_cons_succ]
          refine wpAnyH_take (i := 14) (v := ?_) rfl (by kernel_rfl) (by kernel_rfl) (by kernel_rfl) (fun _ _ _ h => h) (Or.inl ⟨by rfl, ?_⟩) (by assumption) ?_
          rotate_left 1
          · intro w' hSw
            obtain ⟨c0, c1⟩ := HCS.out _ (G8.out.t.trans_new hSw (fun k hk e => by omega)) i _ HX.out
            simp only at c0 c1
            go_simp
            all_goals first | with_reducible rfl | (rw [if_neg (by omega)]; done) | (rw [if_pos (by omega)]; done)
          try simp only [List.getElem_toArray, List.getElem_cons_zero, List.getElem_cons_succ, Act.put, List.setIfInBounds_toArray, List.set_cons_zero, List.set_cons_succ]
          refine wpAnyH_ready (rs := [1, 9]) (by kernel_rfl) (by simp) ?_
          refine AllReadyH.cons rfl (fun K hK => ?_) (AllReadyH.cons rfl (fun K hK => ?_) AllReadyH.nil)
          · obtain ⟨z0, z1⟩ := cells2b16 GD.out.b
            simp only at z0 z1
            go_simp
            refine hK.out _ _ VD.out (fun hHeld => ?_)
            clear hHeld hK K z0 z1
            try simp only [List.getElem_toArray, List.getElem_cons_zero, List.getElem_cons_succ, Act.put, List.setIfInBounds_toArray, List.set_cons_zero, List.set_cons_succ]
            refine wpAnyH_take (i := 7) (v := ?_) rfl (by kernel_rfl) (by kernel_rfl) (by kernel_rfl) (fun _ _ _ h => h) (Or.inl ⟨by rfl, ?_⟩) (by assumption) ?_
            rotate_left 1
            · intro w' hSw
              have hm := Go.Lib.run_min_strs (P := Try.prog) w' #[9, 9] 9 sk xk
              rw [minS_16] at hm
              go_simp
              all_goals first | with_reducible rfl | (rw [if_neg (by omega)]; done) | (rw [if_pos (by omega)]; done)
            try simp only [List.getElem_toArray, List.getElem_cons_zero, List.getElem_cons_succ, Act.put, List.setIfInBounds_toArray, List.set_cons_zero, List.set_cons_succ]
            refine wpAnyH_ready (rs := [9]) (by kernel_rfl) (by simp) ?_
            refine AllReadyH.cons rfl (fun K hK => ?_) AllReadyH.nil
            obtain ⟨z0, z1⟩ := cells2b16 GD.out.b
            simp only at z0 z1
            go_simp
            refine hK.out _ _ VD.out (fun hHeld => ?_)
            clear hHeld hK K z0 z1
            try simp only [List.getElem_toArray, List.getElem_cons_zero, List.getElem_cons_succ, Act.put, List.setIfInBounds_toArray, List.set_cons_zero, List.set_cons_succ]
            refine wpAnyH_ready (rs := [15]) (by kernel_rfl) (by simp) ?_
            refine AllReadyH.cons rfl (fun K hK => ?_) AllReadyH.nil
            refine step_call_on 107 Try.f107 _ _ rfl Try.func107 (by kernel_rfl) (by kernel_rfl) _ _ ((further_16 sv xv _).mono fun e W' h => (⟨_, h.1, rfl, h.2⟩ : ∃ v, e = .returned v ∧ v = .string (fur16 sv xv) ∧ w8.drew = W')) (by go_simp) (by rfl) ?_
            rintro v9 w10 ⟨rfl, hw10⟩
            subst hw10
            refine hK.out _ _ VD.out (fun hHeld => ?_)
            clear hHeld hK K
            try simp only [List.getElem_toArray, List.getElem_cons_zero, List.getElem_cons_succ, Act.put, List.setIfInBounds_toArray, List.set_cons_zero, List.set_cons_succ]
            refine wpAnyH_take (i := 16) (v := ?_) rfl (by kernel_rfl) (by kernel_rfl) (by kernel_rfl) (fun _ _ _ h => h) (Or.inl ⟨by rfl, ?_⟩) (by assumption) ?_
            rotate_left 1
            · intro w' hSw
              go_simp
              all_goals first | with_reducible rfl | (rw [if_neg (by omega)]; done) | (rw [if_pos (by omega)]; done)
            try simp only [List.getElem_toArray, List.getElem_cons_zero, List.getElem_cons_succ, Act.put, List.setIfInBounds_toArray, List.set_cons_zero, List.set_cons_succ]
            refine wpAnyH_ready (rs := [17]) (by kernel_rfl) (by simp) ?_
            refine AllReadyH.cons rfl (fun K hK => ?_) AllReadyH.nil
            obtain ⟨r0, r1⟩ := cells2b16 GD.out.b
            obtain ⟨f0, f1⟩ := free2_16 GD.out.b
            obtain ⟨r2, r3⟩ := cells2b16 G8.out.b
            obtain ⟨f2, f3⟩ := free2_16 G8.out.b
            simp only at r0 r1 r2 r3
            go_simp
            have VE := Lib.hid ((VD.out.setCell (p := ⟨w.heap.size, 0, none⟩) (.inl rfl) (.string (mn16 sk xk))).setCell (p := ⟨w.heap.size, 1, none⟩) (.inl rfl) (.string (fur16 sv xv)))
            refine hK.out _ _ VE.out (fun hHeld => ?_)
            clear hHeld hK K
            try simp only [List.getElem_toArray, List.getElem_cons_zero, List.getElem_cons_succ, Act.put, List.setIfInBounds_toArray, List.set_cons_zero, List.set_cons_succ]
            refine wpAnyH_done (by kernel_rfl) ?_ _
            refine NoPanic.normal ?_
            have G10 := Lib.hid (GD.out.put (mrg16 ⟨sk, sv⟩ ⟨xk, xv⟩))
            go_wp2_with fail
            refine ⟨⟨i + 1, O, mrg16 ⟨sk, sv⟩ ⟨xk, xv⟩, AO, nO, cO, by omega, rfl, by go_num, HNO, Lib.hid (by have := HOI.out; omega), Lib.hid (by
              rw [HTG.out, drop16 HX.out, tog16, if_neg (by rw [HAPT.out]; decide), if_neg (by rw [HAQT.out]; decide)]), G10⟩, ?_⟩
            simp [intOf]
            omega
          · obtain ⟨z0, z1⟩ := cells2b16 GD.out.b
            simp only at z0 z1
            go_simp
            refine hK.out _ _ VD.out (fun hHeld => ?_)
            clear hHeld hK K z0 z1
            try simp only [List.getElem_toArray, List.getElem_cons_zero, List.getElem_cons_succ, Act.put, List.setIfInBounds_toArray, List.set_cons_zero, List.set_cons_succ]
            refine wpAnyH_ready (rs := [1, 15]) (by kernel_rfl) (by simp) ?_
            refine AllReadyH.cons rfl (fun K hK => ?_) (AllReadyH.cons rfl (fun K hK => ?_) AllReadyH.nil)
            · obtain ⟨z0, z1⟩ := cells2b16 GD.out.b
              simp only at z0 z1
              go_simp
              refine hK.out _ _ VD.out (fun hHeld => ?_)
              clear hHeld hK K z0 z1
              try simp only [List.getElem_toArray, List.getElem_cons_zero, List.getElem_cons_succ, Act.put, List.setIfInBounds_toArray, List.set_cons_zero, List.set_cons_succ]
              refine wpAnyH_take (i := 7) (v := ?_) rfl (by kernel_rfl) (by kernel_rfl) (by kernel_rfl) (fun _ _ _ h => h) (Or.inl ⟨by rfl, ?_⟩) (by assumption) ?_
              rotate_left 1
              · intro w' hSw
                have hm := Go.Lib.run_min_strs (P := Try.prog) w' #[9, 9] 9 sk xk
                rw [minS_16] at hm
                go_simp
                all_goals first | with_reducible rfl | (rw [if_neg (by omega)]; done) | (rw [if_pos (by omega)]; done)
              try simp only [List.getElem_toArray, List.getElem_cons_zero, List.getElem_cons_succ, Act.put, List.setIfInBounds_toArray, List.set_cons_zero, List.set_cons_succ]
              refine wpAnyH_ready (rs := [15]) (by kernel_rfl) (by simp) ?_
              refine AllReadyH.cons rfl (fun K hK => ?_) AllReadyH.nil
              refine step_call_on 107 Try.f107 _ _ rfl Try.func107 (by kernel_rfl) (by kernel_rfl) _ _ ((further_16 sv xv _).mono fun e W' h => (⟨_, h.1, rfl, h.2⟩ : ∃ v, e = .returned v ∧ v = .string (fur16 sv xv) ∧ w8.drew = W')) (by go_simp) (by rfl) ?_
              rintro v9 w10 ⟨rfl, hw10⟩
              subst hw10
              refine hK.out _ _ VD.out (fun hHeld => ?_)
              clear hHeld hK K
              try simp only [List.getElem_toArray, List.getElem_cons_zero, List.getElem_cons_succ, Act.put, List.setIfInBounds_toArray, List.set_cons_zero, List.set_cons_succ]
              refine wpAnyH_take (i := 16) (v := ?_) rfl (by kernel_rfl) (by kernel_rfl) (by kernel_rfl) (fun _ _ _ h => h) (Or.inl ⟨by rfl, ?_⟩) (by assumption) ?_
              rotate_left 1
              · intro w' hSw
                go_simp
                all_goals first | with_reducible rfl | (rw [if_neg (by omega)]; done) | (rw [if_pos (by omega)]; done)
              try simp only [List.getElem_toArray, List.getElem_cons_zero, List.getElem_cons_succ, Act.put, List.setIfInBounds_toArray, List.set_cons_zero, List.set_cons_succ]
              refine wpAnyH_ready (rs := [17]) (by kernel_rfl) (by simp) ?_
              refine AllReadyH.cons rfl (fun K hK => ?_) AllReadyH.nil
              obtain ⟨r0, r1⟩ := cells2b16 GD.out.b
              obtain ⟨f0, f1⟩ := free2_16 GD.out.b
              obtain ⟨r2, r3⟩ := cells2b16 G8.out.b
              obtain ⟨f2, f3⟩ := free2_16 G8.out.b
              simp only at r0 r1 r2 r3
              go_simp
              have VE := Lib.hid ((VD.out.setCell (p := ⟨w.heap.size, 0, none⟩) (.inl rfl) (.string (mn16 sk xk))).setCell (p := ⟨w.heap.size, 1, none⟩) (.inl rfl) (.string (fur16 sv xv)))
              refine hK.out _ _ VE.out (fun hHeld => ?_)
              clear hHeld hK K
              try simp only [List.getElem_toArray, List.getElem_cons_zero, List.getElem_cons_succ, Act.put, List.setIfInBounds_toArray, List.set_cons_zero, List.set_cons_succ]
              refine wpAnyH_done (by kernel_rfl) ?_ _
              refine NoPanic.normal ?_
              have G10 := Lib.hid (GD.out.put (mrg16 ⟨sk, sv⟩ ⟨xk, xv⟩))
              go_wp2_with fail
              refine ⟨⟨i + 1, O, mrg16 ⟨sk, sv⟩ ⟨xk, xv⟩, AO, nO, cO, by omega, rfl, by go_num, HNO, Lib.hid (by have := HOI.out; omega), Lib.hid (by
                rw [HTG.out, drop16 HX.out, tog16, if_neg (by rw [HAPT.out]; decide), if_neg (by rw [HAQT.out]; decide)]), G10⟩, ?_⟩
              simp [intOf]
              omega
            · refine step_call_on 107 Try.f107 _ _ rfl Try.func107 (by kernel_rfl) (by kernel_rfl) _ _ ((further_16 sv xv _).mono fun e W' h => (⟨_, h.1, rfl, h.2⟩ : ∃ v, e = .returned v ∧ v = .string (fur16 sv xv) ∧ w8.drew = W')) (by go_simp) (by rfl) ?_
              rintro v9 w10 ⟨rfl, hw10⟩
              subst hw10
              refine hK.out _ _ VD.out (fun hHeld => ?_)
              clear hHeld hK K
              try simp only [List.getElem_toArray, List.getElem_cons_zero, List.getElem_cons_succ, Act.put, List.setIfInBounds_toArray, List.set_cons_zero, List.set_cons_succ]
              refine wpAnyH_ready (rs := [1]) (by kernel_rfl) (by simp) ?_
              refine AllReadyH.cons rfl (fun K hK => ?_) AllReadyH.nil
              obtain ⟨z0, z1⟩ := cells2b16 GD.out.b
              simp only at z0 z1
              go_simp
              refine hK.out _ _ VD.out (fun hHeld => ?_)
              clear hHeld hK K z0 z1
              try simp only [List.getElem_toArray, List.getElem_cons_zero, List.getElem_cons_succ, Act.put, List.setIfInBounds_toArray, List.set_cons_zero, List.set_cons_succ]
              refine wpAnyH_take (i := 7) (v := ?_) rfl (by kernel_rfl) (by kernel_rfl) (by kernel_rfl) (fun _ _ _ h => h) (Or.inl ⟨by rfl, ?_⟩) (by assumption) ?_
              rotate_left 1
              · intro w' hSw
                have hm := Go.Lib.run_min_strs (P := Try.prog) w' #[9, 9] 9 sk xk
                rw [minS_16] at hm
                go_simp
                all_goals first | with_reducible rfl | (rw [if_neg (by omega)]; done) | (rw [if_pos (by omega)]; done)
              try simp only [List.getElem_toArray, List.getElem_cons_zero, List.getElem_cons_succ, Act.put, List.setIfInBounds_toArray, List.set_cons_zero, List.set_cons_succ]
              refine wpAnyH_take (i := 16) (v := ?_) rfl (by kernel_rfl) (by kernel_rfl) (by kernel_rfl) (fun _ _ _ h => h) (Or.inl ⟨by rfl, ?_⟩) (by assumption) ?_
              rotate_left 1
              · intro w' hSw
                go_simp
                all_goals first | with_reducible rfl | (rw [if_neg (by omega)]; done) | (rw [if_pos (by omega)]; done)
              try simp only [List.getElem_toArray, List.getElem_cons_zero, List.getElem_cons_succ, Act.put, List.setIfInBounds_toArray, List.set_cons_zero, List.set_cons_succ]
              refine wpAnyH_ready (rs := [17]) (by kernel_rfl) (by simp) ?_
              refine AllReadyH.cons rfl (fun K hK => ?_) AllReadyH.nil
              obtain ⟨r0, r1⟩ := cells2b16 GD.out.b
              obtain ⟨f0, f1⟩ := free2_16 GD.out.b
              obtain ⟨r2, r3⟩ := cells2b16 G8.out.b
              obtain ⟨f2, f3⟩ := free2_16 G8.out.b
              simp only at r0 r1 r2 r3
              go_simp
              have VE := Lib.hid ((VD.out.setCell (p := ⟨w.heap.size, 0, none⟩) (.inl rfl) (.string (mn16 sk xk))).setCell (p := ⟨w.heap.size, 1, none⟩) (.inl rfl) (.string (fur16 sv xv)))
              refine hK.out _ _ VE.out (fun hHeld => ?_)
              clear hHeld hK K
              try simp only [List.getElem_toArray, List.getElem_cons_zero, List.getElem_cons_succ, Act.put, List.setIfInBounds_toArray, List.set_cons_zero, List.set_cons_succ]
              refine wpAnyH_done (by kernel_rfl) ?_ _
              refine NoPanic.normal ?_
              have G10 := Lib.hid (GD.out.put (mrg16 ⟨sk, sv⟩ ⟨xk, xv⟩))
              go_wp2_with fail
              refine ⟨⟨i + 1, O, mrg16 ⟨sk, sv⟩ ⟨xk, xv⟩, AO, nO, cO, by omega, rfl, by go_num, HNO, Lib.hid (by have := HOI.out; omega), Lib.hid (by
                rw [HTG.out, drop16 HX.out, tog16, if_neg (by rw [HAPT.out]; decide), if_neg (by rw [HAQT.out]; decide)]), G10⟩, ?_⟩
              simp [intOf]
              omega
    · obtain rfl : n = i := by omega
      have hnl : ¬ (n : Int) < (n : Int) := by omega
      have HT9 : Hid (tog16 L ⟨s0k, s0v⟩ = O ++ ⟨sk, sv⟩ :: L.drop n) := Lib.hid (by
        rw [HTG.out, List.drop_of_length_le (by rw [HN.out]; exact Nat.le_refl _), tog16])
      have hdz : L.drop n = [] := List.drop_of_length_le (by rw [HN.out]; exact Nat.le_refl _)
      have HDZ := Lib.hid hdz
      clear hdz
      go_upto_region 9 with fail
      by_cases hcn : c = n
      · have HCN := Lib.hid hcn
        have VY : Hid (Turn (fun k => w.heap.size < k) wx wx.drew) := Lib.hid (Turn.refl _ _).drew
        refine wp_region_noPanic ?_
        refine wp_region_held_drew (S := (fun X => Turn (fun k => w.heap.size < k) wx X)) (by kernel_rfl) VY.out (fun hHeld => ?_)
        clear hHeld
        refine wpAnyH_take (i := 0) (v := ?_) rfl (by kernel_rfl) (by kernel_rfl) (by kernel_rfl) (fun _ _ _ h => h) (Or.inl ⟨by rfl, ?_⟩) (by assumption) ?_
        rotate_left 1
        · intro w' hSw
          go_simp
          all_goals first | with_reducible rfl | (rw [if_neg (by omega)]; done) | (rw [if_pos (by omega)]; done)
        try simp only [List.getElem_toArray, List.getElem_cons_zero, List.getElem_cons_succ, Act.put, List.setIfInBounds_toArray, List.set_cons_zero, List.set_cons_succ]
        refine wpAnyH_take (i := 1) (v := ?_) rfl (by kernel_rfl) (by kernel_rfl) (by kernel_rfl) (fun _ _ _ h => h) (Or.inl ⟨by rfl, ?_⟩) (by assumption) ?_
        rotate_left 1
        · intro w' hSw
          obtain ⟨z0, z1⟩ := cells2b16 (G.out.b.turn hSw (fun h => by omega))
          simp only at z0 z1
          go_simp
          all_goals first | with_reducible rfl | (rw [if_neg (by omega)]; done) | (rw [if_pos (by omega)]; done)
        try simp only [List.getElem_toArray, List.getElem_cons_zero, List.getElem_cons_succ, Act.put, List.setIfInBounds_toArray, List.set_cons_zero, List.set_cons_succ]
        refine wpAnyH_take (i := 4) (v := ?_) rfl (by kernel_rfl) (by kernel_rfl) (by kernel_rfl) (fun _ _ _ h => h) (Or.inl ⟨by rfl, ?_⟩) (by assumption) ?_
        rotate_left 1
        · intro w' hSw
          go_simp
          all_goals first | with_reducible rfl | (rw [if_neg (by omega)]; done) | (rw [if_pos (by omega)]; done)
        try simp only [List.getElem_toArray, List.getElem_cons_zero, List.getElem_cons_succ, Act.put, List.setIfInBounds_toArray, List.set_cons_zero, List.set_cons_succ]
        refine wpAnyH_take (i := 5) (v := ?_) rfl (by kernel_rfl) (by kernel_rfl) (by kernel_rfl) (fun _ _ _ h => h) (Or.inl ⟨by rfl, ?_⟩) (by assumption) ?_
        rotate_left 1
        · intro w' hSw
          go_simp
          all_goals first | with_reducible rfl | (rw [if_neg (by omega)]; done) | (rw [if_pos (by omega)]; done)
        try simp only [List.getElem_toArray, List.getElem_cons_zero, List.getElem_cons_succ, Act.put, List.setIfInBounds_toArray, List.set_cons_zero, List.set_cons_succ]
        refine wpAnyH_take (i := 6) (v := ?_) rfl (by kernel_rfl) (by kernel_rfl) (by kernel_rfl) (fun _ _ _ h => h) (Or.inl ⟨by rfl, ?_⟩) (by assumption) ?_
        rotate_left 1
        · intro w' hSw
          go_simp
          all_goals first | with_reducible rfl | (rw [if_neg (by omega)]; done) | (rw [if_pos (by omega)]; done)
        try simp only [List.getElem_toArray, List.getElem_cons_zero, List.getElem_cons_succ, Act.put, List.setIfInBounds_toArray, List.set_cons_zero, List.set_cons_succ]
        refine wpAnyH_ready (rs := [2]) (by kernel_rfl) (by simp) ?_
        refine AllReadyH.cons rfl (fun K hK => ?_) AllReadyH.nil
        refine step_build16 rfl 44 59 _ rfl [.string sk, .string sv] (by rfl) Try.underlying44 info_sp16 rfl ?_
        have NB : Hid (Blk (wx.drew.alloc (.cells #[.string sk, .string sv] 59)) wx.drew.heap.size 59 (pc2 ⟨sk, sv⟩)) := Lib.hid (Blk.new _ _ _)
        have GB := Lib.hid ((G.out.still (Turn.refl _ _).drew).still ((Turn.refl _ _).alloc (.cells #[.string sk, .string sv] 59)))
        have VB : Hid (Turn (fun k => w.heap.size < k) wx (wx.drew.alloc (.cells #[.string sk, .string sv] 59))) := Lib.hid ((Turn.refl _ _).drew.alloc _)
        refine hK.out _ _ VB.out (fun hHeld => ?_)
        clear hHeld hK K
        try simp only [List.getElem_toArray, List.getElem_cons_zero, List.getElem_cons_succ, Act.put, List.setIfInBounds_toArray, List.set_cons_zero, List.set_cons_succ]
        refine wpAnyH_ready (rs := [3]) (by kernel_rfl) (by simp) ?_
        refine AllReadyH.cons rfl (fun K hK => ?_) AllReadyH.nil
        refine step_app_rc16 rfl _ _ 44 rfl (w.heap.size + 1) 59 _ 2 32 Try.underlying44 info_sp16 rfl (by decide) (.slice AO nO cO) nO (O.flatMap pc2) rfl (by have := GB.out.o; unfold So16 at this; rw [HNO.out] at this; exact this) (some ⟨wx.drew.heap.size, 0, none⟩) 1 1 (pc2 ⟨sk, sv⟩) rfl rfl NB.out.rc (fun u hu => by simp [pc2] at hu; rcases hu with rfl | rfl <;> rfl) (by have := HOI.out; unfold maxLen; omega) (by have := HOI.out; omega) (by have := GB.out.b.lt; omega) ?_
        intro A7 c7 w7 ho7 ht7
        have O7 := Lib.hid ho7
        have VC : Hid (Turn (fun k => w.heap.size < k) wx w7) := Lib.hid (VB.out.trans (ht7.mono (fun k _ e => by have := GB.out.ow _ e; omega)))
        have D7 : Hid (Turn (fun _ => False) w w7) := Lib.hid (G.out.t.trans_new VC.out (fun k hk e => by omega))
        clear ho7 ht7
        refine hK.out _ _ VC.out (fun hHeld => ?_)
        clear hHeld hK K
        try simp only [List.getElem_toArray, List.getElem_cons_zero, List.getElem_cons_succ, Act.put, List.setIfInBounds_toArray, List.set_cons_zero, List.set_cons_succ]
        refine wpAnyH_ready (rs := [7]) (by kernel_rfl) (by simp) ?_
        refine AllReadyH.cons rfl (fun K hK => ?_) AllReadyH.nil
        refine step_app_rc16 rfl _ _ 44 rfl (w.heap.size + 1) 59 _ 2 32 Try.underlying44 info_sp16 rfl (by decide) (.slice A7 (nO + 1) c7) (nO + 1) (O.flatMap pc2 ++ pc2 ⟨sk, sv⟩) rfl O7.out (_) (0) (_) ((L.drop n).flatMap pc2) rfl (by rw [HDZ.out]; rfl) (by rw [HDZ.out]; exact rc_nil _ _) (pc2_one _) (by have := HOI.out; unfold maxLen; omega) (by have := HOI.out; omega) (by have := VC.out.size; have := G.out.b.lt; omega) ?_
        intro A8 c8 wA ho8 ht8
        have hge : ∀ k, (Value.slice A7 (nO + 1) c7).ownBlock = some k → w.heap.size < k := fun k e => by have := (own_ge9 O7.out k e).1; omega
        have O8 := Lib.hid ho8
        have VZ : Hid (Turn (fun k => w.heap.size < k) wx wA) := Lib.hid (VC.out.trans (ht8.mono (fun k _ e => hge k e)))
        have D8 : Hid (Turn (fun _ => False) w wA) := Lib.hid (G.out.t.trans_new VZ.out (fun k hk e => by omega))
        clear ho8 ht8 hge
        refine hK.out _ _ VZ.out (fun hHeld => ?_)
        clear hHeld hK K
        try simp only [List.getElem_toArray, List.getElem_cons_zero, List.getElem_cons_succ, Act.put, List.setIfInBounds_toArray, List.set_cons_zero, List.set_cons_succ]
        refine wpAnyH_take (i := 8) (v := ?_) rfl (by kernel_rfl) (by kernel_rfl) (by kernel_rfl) (fun _ _ _ h => h) (Or.inl ⟨by rfl, ?_⟩) (by assumption) ?_
        rotate_left 1
        · intro w' hSw
          go_simp
          all_goals first | with_reducible rfl | (rw [if_neg (by omega)]; done) | (rw [if_pos (by omega)]; done)
        try simp only [List.getElem_toArray, List.getElem_cons_zero, List.getElem_cons_succ, Act.put, List.setIfInBounds_toArray, List.set_cons_zero, List.set_cons_succ]
        refine wpAnyH_done (by kernel_rfl) ?_ _
        refine NoPanic.normal ?_
        go_wp2_with fail
        try simp only [Exit.noGoto_ret]
        go_ret
        have hlen : (tog16 L ⟨s0k, s0v⟩).length = nO + 1 + (0) := by
          rw [HT9.out, List.length_append, List.length_cons, List.length_drop, HN.out, HNO.out]
          omega
        have hfl : O.flatMap pc2 ++ pc2 ⟨sk, sv⟩ ++ (L.drop n).flatMap pc2 = (tog16 L ⟨s0k, s0v⟩).flatMap pc2 := by
          rw [HT9.out, List.flatMap_append, List.flatMap_cons, List.append_assoc]
        have ho := O8.out
        rw [hfl] at ho
        refine ⟨A8, nO + 1 + (0), c8, rfl, ⟨A8, c8, by rw [hlen], by rw [hlen]; have := HOI.out; omega, rc_own ho⟩, ⟨fun hp a e => ?_, own_cap16 ho⟩, D8.out⟩
        have := (own_ge9 ho a.block (by rw [e]; rfl)).1
        omega
      · have HCN := Lib.hid hcn
        have VY : Hid (Turn (fun k => w.heap.size < k) wx wx.drew) := Lib.hid (Turn.refl _ _).drew
        refine wp_region_noPanic ?_
        refine wp_region_held_drew (S := (fun X => Turn (fun k => w.heap.size < k) wx X)) (by kernel_rfl) VY.out (fun hHeld => ?_)
        clear hHeld
        refine wpAnyH_take (i := 0) (v := ?_) rfl (by kernel_rfl) (by kernel_rfl) (by kernel_rfl) (fun _ _ _ h => h) (Or.inl ⟨by rfl, ?_⟩) (by assumption) ?_
        rotate_left 1
        · intro w' hSw
          go_simp
          all_goals first | with_reducible rfl | (rw [if_neg (by omega)]; done) | (rw [if_pos (by omega)]; done)
        try simp only [List.getElem_toArray, List.getElem_cons_zero, List.getElem_cons_succ, Act.put, List.setIfInBounds_toArray, List.set_cons_zero, List.set_cons_succ]
        refine wpAnyH_take (i := 1) (v := ?_) rfl (by kernel_rfl) (by kernel_rfl) (by kernel_rfl) (fun _ _ _ h => h) (Or.inl ⟨by rfl, ?_⟩) (by assumption) ?_
        rotate_left 1
        · intro w' hSw
          obtain ⟨z0, z1⟩ := cells2b16 (G.out.b.turn hSw (fun h => by omega))
          simp only at z0 z1
          go_simp
          all_goals first | with_reducible rfl | (rw [if_neg (by omega)]; done) | (rw [if_pos (by omega)]; done)
        try simp only [List.getElem_toArray, List.getElem_cons_zero, List.getElem_cons_succ, Act.put, List.setIfInBounds_toArray, List.set_cons_zero, List.set_cons_succ]
        refine wpAnyH_take (i := 4) (v := ?_) rfl (by kernel_rfl) (by kernel_rfl) (by kernel_rfl) (fun _ _ _ h => h) (Or.inl ⟨by rfl, ?_⟩) (by assumption) ?_
        rotate_left 1
        · intro w' hSw
          go_simp
          all_goals first | with_reducible rfl | (rw [if_neg (by omega)]; done) | (rw [if_pos (by omega)]; done)
        try simp only [List.getElem_toArray, List.getElem_cons_zero, List.getElem_cons_succ, Act.put, List.setIfInBounds_toArray, List.set_cons_zero, List.set_cons_succ]
        refine wpAnyH_take (i := 5) (v := ?_) rfl (by kernel_rfl) (by kernel_rfl) (by kernel_rfl) (fun _ _ _ h => h) (Or.inl ⟨by rfl, ?_⟩) (by assumption) ?_
        rotate_left 1
        · intro w' hSw
          go_simp
          all_goals first | with_reducible rfl | (rw [if_neg (by omega)]; done) | (rw [if_pos (by omega)]; done)
        try simp only [List.getElem_toArray, List.getElem_cons_zero, List.getElem_cons_succ, Act.put, List.setIfInBounds_toArray, List.set_cons_zero, List.set_cons_succ]
        refine wpAnyH_take (i := 6) (v := ?_) rfl (by kernel_rfl) (by kernel_rfl) (by kernel_rfl) (fun _ _ _ h => h) (Or.inl ⟨by rfl, ?_⟩) (by assumption) ?_
        rotate_left 1
        · intro w' hSw
          go_simp
          all_goals first | with_reducible rfl | (rw [if_neg (by omega)]; done) | (rw [if_pos (by omega)]; done)
        try simp only [List.getElem_toArray, List.getElem_cons_zero, List.getElem_cons_succ, Act.put, List.setIfInBounds_toArray, List.set_cons_zero, List.set_cons_succ]
        refine wpAnyH_ready (rs := [2]) (by kernel_rfl) (by simp) ?_
        refine AllReadyH.cons rfl (fun K hK => ?_) AllReadyH.nil
        refine step_build16 rfl 44 59 _ rfl [.string sk, .string sv] (by rfl) Try.underlying44 info_sp16 rfl ?_
        have NB : Hid (Blk (wx.drew.alloc (.cells #[.string sk, .string sv] 59)) wx.drew.heap.size 59 (pc2 ⟨sk, sv⟩)) := Lib.hid (Blk.new _ _ _)
        have GB := Lib.hid ((G.out.still (Turn.refl _ _).drew).still ((Turn.refl _ _).alloc (.cells #[.string sk, .string sv] 59)))
        have VB : Hid (Turn (fun k => w.heap.size < k) wx (wx.drew.alloc (.cells #[.string sk, .string sv] 59))) := Lib.hid ((Turn.refl _ _).drew.alloc _)
        refine hK.out _ _ VB.out (fun hHeld => ?_)
        clear hHeld hK K
        try simp only [List.getElem_toArray, List.getElem_cons_zero, List.getElem_cons_succ, Act.put, List.setIfInBounds_toArray, List.set_cons_zero, List.set_cons_succ]
        refine wpAnyH_ready (rs := [3]) (by kernel_rfl) (by simp) ?_
        refine AllReadyH.cons rfl (fun K hK => ?_) AllReadyH.nil
        refine step_app_rc16 rfl _ _ 44 rfl (w.heap.size + 1) 59 _ 2 32 Try.underlying44 info_sp16 rfl (by decide) (.slice AO nO cO) nO (O.flatMap pc2) rfl (by have := GB.out.o; unfold So16 at this; rw [HNO.out] at this; exact this) (some ⟨wx.drew.heap.size, 0, none⟩) 1 1 (pc2 ⟨sk, sv⟩) rfl rfl NB.out.rc (fun u hu => by simp [pc2] at hu; rcases hu with rfl | rfl <;> rfl) (by have := HOI.out; unfold maxLen; omega) (by have := HOI.out; omega) (by have := GB.out.b.lt; omega) ?_
        intro A7 c7 w7 ho7 ht7
        have O7 := Lib.hid ho7
        have VC : Hid (Turn (fun k => w.heap.size < k) wx w7) := Lib.hid (VB.out.trans (ht7.mono (fun k _ e => by have := GB.out.ow _ e; omega)))
        have D7 : Hid (Turn (fun _ => False) w w7) := Lib.hid (G.out.t.trans_new VC.out (fun k hk e => by omega))
        clear ho7 ht7
        refine hK.out _ _ VC.out (fun hHeld => ?_)
        clear hHeld hK K
        try simp only [List.getElem_toArray, List.getElem_cons_zero, List.getElem_cons_succ, Act.put, List.setIfInBounds_toArray, List.set_cons_zero, List.set_cons_succ]
        refine wpAnyH_ready (rs := [7]) (by kernel_rfl) (by simp) ?_
        refine AllReadyH.cons rfl (fun K hK => ?_) AllReadyH.nil
        refine step_app_rc16 rfl _ _ 44 rfl (w.heap.size + 1) 59 _ 2 32 Try.underlying44 info_sp16 rfl (by decide) (.slice A7 (nO + 1) c7) (nO + 1) (O.flatMap pc2 ++ pc2 ⟨sk, sv⟩) rfl O7.out (_) (0) (_) ((L.drop n).flatMap pc2) rfl (by rw [HDZ.out]; rfl) (by rw [HDZ.out]; exact rc_nil _ _) (pc2_one _) (by have := HOI.out; unfold maxLen; omega) (by have := HOI.out; omega) (by have := VC.out.size; have := G.out.b.lt; omega) ?_
        intro A8 c8 wA ho8 ht8
        have hge : ∀ k, (Value.slice A7 (nO + 1) c7).ownBlock = some k → w.heap.size < k := fun k e => by have := (own_ge9 O7.out k e).1; omega
        have O8 := Lib.hid ho8
        have VZ : Hid (Turn (fun k => w.heap.size < k) wx wA) := Lib.hid (VC.out.trans (ht8.mono (fun k _ e => hge k e)))
        have D8 : Hid (Turn (fun _ => False) w wA) := Lib.hid (G.out.t.trans_new VZ.out (fun k hk e => by omega))
        clear ho8 ht8 hge
        refine hK.out _ _ VZ.out (fun hHeld => ?_)
        clear hHeld hK K
        try simp only [List.getElem_toArray, List.getElem_cons_zero, List.getElem_cons_succ, Act.put, List.setIfInBounds_toArray, List.set_cons_zero, List.set_cons_succ]
        refine wpAnyH_take (i := 8) (v := ?_) rfl (by kernel_rfl) (by kernel_rfl) (by kernel_rfl) (fun _ _ _ h => h) (Or.inl ⟨by rfl, ?_⟩) (by assumption) ?_
        rotate_left 1
        · intro w' hSw
          go_simp
          all_goals first | with_reducible rfl | (rw [if_neg (by omega)]; done) | (rw [if_pos (by omega)]; done)
        try simp only [List.getElem_toArray, List.getElem_cons_zero, List.getElem_cons_succ, Act.put, List.setIfInBounds_toArray, List.set_cons_zero, List.set_cons_succ]
        refine wpAnyH_done (by kernel_rfl) ?_ _
        refine NoPanic.normal ?_
        go_wp2_with fail
        try simp only [Exit.noGoto_ret]
        go_ret
        have hlen : (tog16 L ⟨s0k, s0v⟩).length = nO + 1 + (0) := by
          rw [HT9.out, List.length_append, List.length_cons, List.length_drop, HN.out, HNO.out]
          omega
        have hfl : O.flatMap pc2 ++ pc2 ⟨sk, sv⟩ ++ (L.drop n).flatMap pc2 = (tog16 L ⟨s0k, s0v⟩).flatMap pc2 := by
          rw [HT9.out, List.flatMap_append, List.flatMap_cons, List.append_assoc]
        have ho := O8.out
        rw [hfl] at ho
        refine ⟨A8, nO + 1 + (0), c8, rfl, ⟨A8, c8, by rw [hlen], by rw [hlen]; have := HOI.out; omega, rc_own ho⟩, ⟨fun hp a e => ?_, own_cap16 ho⟩, D8.out⟩
        have := (own_ge9 ho a.block (by rw [e]; rfl)).1
        omega
end Go.Proofs.Ytjkfgbmlhglnfaa
