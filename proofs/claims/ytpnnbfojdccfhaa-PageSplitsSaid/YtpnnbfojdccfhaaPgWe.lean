/- Layer 8: the document's part. -/
import Derived.Test.YtpnnbfojdccfhaaPgWc
namespace Go.Proofs.Ytpnnbfojdccfhaa
open Go.RowKit
set_option linter.unusedVariables false
set_option linter.unusedSimpArgs false
set_option maxRecDepth 100000

theorem wpList_app_strsR {w : World} {ops : Array Oper} {rest : List Oper} {o : Oper} {a : Act} {Q : Exit → Act → World → Prop} (hgd : o.guard = none) (s y : Operand)
    (ho : o.op = .call { callee := .builtin .append, args := #[s, y], argTypes := #[23, 23] })
    (v : Value) (l m : List ByteArray) (g : Nat) (A : Option Addr) (n c N : Nat) (hn : m.length = n) (hN : (l ++ m).length = N) (hs : a.eval s = v) (hy : a.eval y = .slice A n c) (hown : Ro w 9 v (l.map Value.string) g) (hx : Sr w A m) (hcp : Cp A n c) (hb : l.length + m.length ≤ 100000)
    (h : ∀ g' c' w', (g' = g ∨ g' = w.heap.size) → Ro w' 9 (.slice (some ⟨g', 0, none⟩) N c') ((l ++ m).map Value.string) g' → Cp (some ⟨g', 0, none⟩) N c' → Turn (fun k => k = g) w w' → wpList Try.prog ops Q rest (a.put o.dst (.slice (some ⟨g', 0, none⟩) N c')) w') : wpList Try.prog ops Q (o :: rest) a w :=
  wpList_plain hgd fun K hK => by
    subst hn hN
    obtain ⟨g', c', w', hr, h2, h3, h4, h5⟩ := run_app_strsR w o.type v l m g hown A c hx hcp hb
    unfold Oper.wp execOp
    simp only [ho, resolve, invoke, builtin, Sem.run_bind, Sem.run_pure, Result.andThen_ok, List.map_toArray, List.map_cons, List.map_nil, hs, hy, hr]
    exact hK _ _ (h g' c' w' h2 h3 h4 h5)
theorem wpList_app_intsR {w : World} {ops : Array Oper} {rest : List Oper} {o : Oper} {a : Act} {Q : Exit → Act → World → Prop} (hgd : o.guard = none) (s y : Operand)
    (ho : o.op = .call { callee := .builtin .append, args := #[s, y], argTypes := #[24, 24] })
    (v : Value) (l m : List Int) (g : Nat) (A : Option Addr) (n c N : Nat) (hn : m.length = n) (hN : (l ++ m).length = N) (hs : a.eval s = v) (hy : a.eval y = .slice A n c) (hown : Ro w 3 v (l.map (Value.int .i64)) g) (hx : Nr w A m) (hcp : Cp A n c) (hb : l.length + m.length ≤ 100000)
    (h : ∀ g' c' w', (g' = g ∨ g' = w.heap.size) → Ro w' 3 (.slice (some ⟨g', 0, none⟩) N c') ((l ++ m).map (Value.int .i64)) g' → Cp (some ⟨g', 0, none⟩) N c' → Turn (fun k => k = g) w w' → wpList Try.prog ops Q rest (a.put o.dst (.slice (some ⟨g', 0, none⟩) N c')) w') : wpList Try.prog ops Q (o :: rest) a w :=
  wpList_plain hgd fun K hK => by
    subst hn hN
    obtain ⟨g', c', w', hr, h2, h3, h4, h5⟩ := run_app_intsR w o.type v l m g hown A c hx hcp hb
    unfold Oper.wp execOp
    simp only [ho, resolve, invoke, builtin, Sem.run_bind, Sem.run_pure, Result.andThen_ok, List.map_toArray, List.map_cons, List.map_nil, hs, hy, hr]
    exact hK _ _ (h g' c' w' h2 h3 h4 h5)
set_option maxHeartbeats 8000000 in
theorem refPartL_any (n : Nd) (a b : Nat) (A1 : Option Addr) (c1 : Nat) (A2 : Option Addr) (c2 : Nat) (A3 : Option Addr) (c3 : Nat) (w : World) (h : No w A1 c1 A2 c2 A3 c3 n) (hc1 : Cp A1 n.keys.length c1) (hc2 : Cp A2 n.vals.length c2) (hc3 : Cp A3 n.kids.length c3) (hlf : n.leaf = true) (hv : n.vals.length = n.keys.length) (h0 : 0 < n.keys.length) (h2 : n.keys.length ≤ 2000) (hab : a < b) (hb : b ≤ n.keys.length) :
    Calls Try.prog 45 #[nv8 A1 c1 A2 c2 A3 c3 n, .int .i64 a, .int .i64 b] w fun e w' => ∃ v, e = .returned v ∧ NoF w w' v (part8 n a b) ∧ Turn (fun _ => False) w w' := by
  obtain ⟨a1, rfl⟩ : ∃ a, A1 = some a := by obtain ⟨b, o, e, _⟩ := h.keys (by omega); exact ⟨_, e⟩
  obtain ⟨a2, rfl⟩ : ∃ a, A2 = some a := by obtain ⟨b, o, e, _⟩ := h.vals (by omega); exact ⟨_, e⟩
  have hk := (h.keys.take b).drop (c := c1) (by have := hc1.le; rw [List.length_take]; omega) a
  have pk := (hc1.take (q := b) hb).drop (q := a) (by omega)
  have hvv := (h.vals.take b).drop (c := c2) (by have := hc2.le; rw [List.length_take]; omega) a
  have pv := (hc2.take (q := b) (by omega)).drop (q := a) (by omega)
  unfold off8 at hk pk hvv pv
  simp only at hk pk hvv pv
  have l1 := hc1.le
  have l2 := hc2.le
  have m1 := hc1.cm
  have m2 := hc2.cm
  unfold maxLen at m1 m2
  have HD : Hid (part8 n a b = ⟨true, (n.keys.take b).drop a, (n.vals.take b).drop a, []⟩) := Lib.hid (by unfold part8; rw [hlf]; rfl)
  generalize part8 n a b = DN at *
  have lk : ((n.keys.take b).drop a).length = b - a := len_cut _ _ _ hb
  have lv : ((n.vals.take b).drop a).length = (b - a) := len_cut _ _ _ (by omega)
  have HM1 := Lib.hid lk
  have HM2 := Lib.hid lv
  have HLK := Lib.hid lk
  have HLV := Lib.hid lv
  have HG1 : Hid (([] : List ByteArray).length + ((n.keys.take b).drop a).length ≤ 100000) := Lib.hid (by rw [lk]; simp; omega)
  have HG2 : Hid (([] : List ByteArray).length + ((n.vals.take b).drop a).length ≤ 100000) := Lib.hid (by rw [lv]; simp; omega)
  have HN1 : Hid (([] ++ (n.keys.take b).drop a).length = b - a) := Lib.hid (by rw [List.nil_append]; exact lk)
  have HN2 : Hid (([] ++ (n.vals.take b).drop a).length = (b - a)) := Lib.hid (by rw [List.nil_append]; exact lv)
  generalize (n.keys.take b).drop a = KC at *
  generalize (n.vals.take b).drop a = VC at *
  have T0 := Lib.hid (((Turn.refl (fun _ => False) w).alloc (.cells #[.bool true, .slice (some a1) n.keys.length c1, .slice (some a2) n.vals.length c2, .slice A3 n.kids.length c3] 26)).alloc (.cells #[.bool false, .slice none 0 0, .slice none 0 0, .slice none 0 0] 26))
  have B0 := Lib.hid (box_two w [.bool true, .slice (some a1) n.keys.length c1, .slice (some a2) n.vals.length c2, .slice A3 n.kids.length c3] [.bool false, .slice none 0 0, .slice none 0 0, .slice none 0 0]).1
  have R0 := Lib.hid (box_two w [.bool true, .slice (some a1) n.keys.length c1, .slice (some a2) n.vals.length c2, .slice A3 n.kids.length c3] [.bool false, .slice none 0 0, .slice none 0 0, .slice none 0 0]).2
  simp only [nv8]
  rw [hlf]
  generalize n.keys.length = nk at *
  generalize n.vals.length = nv at *
  generalize n.kids.length = nd at *
  have z1 : (0 : Int) ≤ (a : Int) := by omega
  have z2 : (a : Int) ≤ (b : Int) := by omega
  have z3 : (b : Int) ≤ (c1 : Int) := by omega
  have z4 : (b : Int) ≤ (c2 : Int) := by omega
  have z6 : (a : Int) ≤ (b : Int) := by omega
  have z7 := wrap_of (b : Int) (by omega) (by omega)
  have hqq : (b : Int) = (b : Int) := by omega
  clear h hc1 hc2 hc3 lk lv l1 l2 h2 hv hlf hb
  have HCA : Hid (¬ c2 = a) := Lib.hid (by omega)
  clear hab
  go_enter Try.func45, Try.ntmps45
  go_wp2_with fail
  generalize hW : (w.alloc (.cells #[.bool true, .slice (some a1) nk c1, .slice (some a2) nv c2, .slice A3 nd c3] 26)).alloc (.cells #[.bool false, .slice none 0 0, .slice none 0 0, .slice none 0 0] 26) = W at *
  have HK := Lib.hid (hk.turn T0.out)
  have PK := Lib.hid pk
  have HV := Lib.hid (hvv.turn T0.out)
  have PV := Lib.hid pv
  have hw1 : w.heap.size + 1 < W.heap.size := R0.out.lt
  clear hk pk hvv pv hW
  go_cut [7] (fun a7 wx => ∃ (Y gA cA : Nat), a7 = .pointer (some ⟨Y, 0, none⟩) ∧ Blk wx Y 26 [.bool true, .slice (some ⟨gA, 0, none⟩) (b - a) cA, .slice none 0 0, .slice none 0 0] ∧ Ro wx 9 (.slice (some ⟨gA, 0, none⟩) (b - a) cA) (([] ++ KC).map Value.string) gA ∧ Cp (some ⟨gA, 0, none⟩) (b - a) cA ∧ W.heap.size ≤ Y ∧ W.heap.size ≤ gA ∧ ¬ Y = gA ∧ Turn (fun _ => False) W wx)
  case first =>
    refine wp_region_noPanic ?_
    refine wp_region_held_drew (S := fun X => Turn (fun _ => False) W X) (by kernel_rfl) ((Turn.refl (fun _ => False) W).drew) (fun hHeld => ?_)
    refine wpAnyH_named (fun X0 hX0 => ?_)
    clear hHeld
    have T0 : Hid (Turn (fun _ => False) W X0) := Lib.hid (by rw [hX0]; exact (Turn.refl (fun _ => False) W).drew)
    have hH0 := T0.out
    clear hX0
    refine wpAnyH_take (i := 0) (v := ?_) rfl (by kernel_rfl) (by kernel_rfl) (by kernel_rfl) (fun _ _ _ h => h) (Or.inl ⟨by rfl, ?_⟩) (by assumption) ?_
    rotate_left 1
    · intro w' hSw
      go_simp
      all_goals first | with_reducible rfl | (rw [if_neg (by omega)]; done) | (rw [if_pos (by omega)]; done) | (rw [if_neg (by omega)]; with_reducible rfl) | (rw [if_pos (by omega)]; with_reducible rfl)
    try simp only [List.getElem_toArray, List.getElem_cons_zero, List.getElem_cons_succ, Act.put, List.setIfInBounds_toArray, List.set_cons_zero, List.set_cons_succ]
    refine wpAnyH_take (i := 1) (v := ?_) rfl (by kernel_rfl) (by kernel_rfl) (by kernel_rfl) (fun _ _ _ h => h) (Or.inl ⟨by rfl, ?_⟩) (by assumption) ?_
    rotate_left 1
    · intro w' hSw
      have x0 : w'.cell? ⟨w.heap.size, 0, none⟩ = some (.bool true) := (B0.out.turn hSw (fun h => h)).cell 0
      go_simp
      all_goals first | with_reducible rfl | (rw [if_neg (by omega)]; done) | (rw [if_pos (by omega)]; done) | (rw [if_neg (by omega)]; with_reducible rfl) | (rw [if_pos (by omega)]; with_reducible rfl)
    try simp only [List.getElem_toArray, List.getElem_cons_zero, List.getElem_cons_succ, Act.put, List.setIfInBounds_toArray, List.set_cons_zero, List.set_cons_succ]
    refine wpAnyH_take (i := 3) (v := ?_) rfl (by kernel_rfl) (by kernel_rfl) (by kernel_rfl) (fun _ _ _ h => h) (Or.inl ⟨by rfl, ?_⟩) (by assumption) ?_
    rotate_left 1
    · intro w' hSw
      go_simp
      all_goals first | with_reducible rfl | (rw [if_neg (by omega)]; done) | (rw [if_pos (by omega)]; done) | (rw [if_neg (by omega)]; with_reducible rfl) | (rw [if_pos (by omega)]; with_reducible rfl)
    try simp only [List.getElem_toArray, List.getElem_cons_zero, List.getElem_cons_succ, Act.put, List.setIfInBounds_toArray, List.set_cons_zero, List.set_cons_succ]
    refine wpAnyH_take (i := 4) (v := ?_) rfl (by kernel_rfl) (by kernel_rfl) (by kernel_rfl) (fun _ _ _ h => h) (Or.inl ⟨by rfl, ?_⟩) (by assumption) ?_
    rotate_left 1
    · intro w' hSw
      have x1 : w'.cell? ⟨w.heap.size, 1, none⟩ = some (.slice (some a1) nk c1) := (B0.out.turn hSw (fun h => h)).cell 1
      go_simp
      all_goals first | with_reducible rfl | (rw [if_neg (by omega)]; done) | (rw [if_pos (by omega)]; done) | (rw [if_neg (by omega)]; with_reducible rfl) | (rw [if_pos (by omega)]; with_reducible rfl)
    try simp only [List.getElem_toArray, List.getElem_cons_zero, List.getElem_cons_succ, Act.put, List.setIfInBounds_toArray, List.set_cons_zero, List.set_cons_succ]
    refine wpAnyH_take (i := 5) (v := ?_) rfl (by kernel_rfl) (by kernel_rfl) (by kernel_rfl) (fun _ _ _ h => h) (Or.inl ⟨by rfl, ?_⟩) (by assumption) ?_
    rotate_left 1
    · intro w' hSw
      go_simp
      all_goals first | with_reducible rfl | (rw [if_neg (by omega)]; done) | (rw [if_pos (by omega)]; done) | (rw [if_neg (by omega)]; with_reducible rfl) | (rw [if_pos (by omega)]; with_reducible rfl)
    try simp only [List.getElem_toArray, List.getElem_cons_zero, List.getElem_cons_succ, Act.put, List.setIfInBounds_toArray, List.set_cons_zero, List.set_cons_succ]
    refine wpAnyH_take (i := 6) (v := ?_) rfl (by kernel_rfl) (by kernel_rfl) (by kernel_rfl) (fun _ _ _ h => h) (Or.inl ⟨by rfl, ?_⟩) (by assumption) ?_
    rotate_left 1
    · intro w' hSw
      go_simp
      all_goals first | with_reducible rfl | (rw [if_neg (by omega)]; done) | (rw [if_pos (by omega)]; done) | (rw [if_neg (by omega)]; with_reducible rfl) | (rw [if_pos (by omega)]; with_reducible rfl)
    try simp only [List.getElem_toArray, List.getElem_cons_zero, List.getElem_cons_succ, Act.put, List.setIfInBounds_toArray, List.set_cons_zero, List.set_cons_succ]
    refine wpAnyH_take (i := 7) (v := ?_) rfl (by kernel_rfl) (by kernel_rfl) (by kernel_rfl) (fun _ _ _ h => h) (Or.inl ⟨by rfl, ?_⟩) (by assumption) ?_
    rotate_left 1
    · intro w' hSw
      go_simp
      all_goals first | with_reducible rfl | (rw [if_neg (by omega)]; done) | (rw [if_pos (by omega)]; done) | (rw [if_neg (by omega)]; with_reducible rfl) | (rw [if_pos (by omega)]; with_reducible rfl)
    try simp only [List.getElem_toArray, List.getElem_cons_zero, List.getElem_cons_succ, Act.put, List.setIfInBounds_toArray, List.set_cons_zero, List.set_cons_succ]
    refine wpAnyH_ready (rs := [2, 10]) (by kernel_rfl) (by simp) ?_
    refine AllReadyH.cons rfl (fun K hK => ?_) (AllReadyH.cons rfl (fun K hK => ?_) AllReadyH.nil)
    · go_simp
      refine hK.out _ _ ((T0.out.alloc _)) (fun hHeld => ?_)
      clear hK K
      try simp only [List.getElem_toArray, List.getElem_cons_zero, List.getElem_cons_succ, Act.put, List.setIfInBounds_toArray, List.set_cons_zero, List.set_cons_succ]
      refine wpAnyH_named (fun X1 e => ?_)
      clear hHeld
      have T1 := Lib.hid (T0.out.al e)
      have hH1 := T1.out
      have hz1 := size_al e
      have hy1 := T0.out.size
      have R1_10 := Lib.hid (Ro.empS e)
      clear T0 hH0 e
      refine wpAnyH_ready (rs := [8, 10]) (by kernel_rfl) (by simp) ?_
      refine AllReadyH.cons rfl (fun K hK => ?_) (AllReadyH.cons rfl (fun K hK => ?_) AllReadyH.nil)
      · refine step_app_strsR rfl _ _ rfl (.slice (some ⟨X0.heap.size, 0, none⟩) 0 0) [] (KC) X0.heap.size (if c1 = a then some a1 else some (a1.add a)) (b - a) (c1 - a) (b - a) (HM1.out) (HN1.out) rfl rfl R1_10.out (HK.out.turn T1.out) PK.out HG1.out ?_
        intro g_2 c_2 X2 hg hr hc ht
        have hw : W.heap.size ≤ X0.heap.size := by omega
        have T2 := Lib.hid (T1.out.trans_new (S := fun _ => False) ht (fun k hk e => by omega))
        have hH2 := T2.out
        have hz2 := ht.size
        have hp := R1_10.out.lt
        have hy2 := T1.out.size
        have hv2 : W.heap.size ≤ g_2 := by omega
        have R2_16 := Lib.hid hr
        have P2_16 := Lib.hid hc
        clear T1 hH1 R1_10 hr hc ht hg hp hw
        refine hK.out _ _ hH2 (fun hHeld => ?_)
        clear hK K hHeld
        try simp only [List.getElem_toArray, List.getElem_cons_zero, List.getElem_cons_succ, Act.put, List.setIfInBounds_toArray, List.set_cons_zero, List.set_cons_succ]
        refine wpAnyH_take (i := 9) (v := ?_) rfl (by kernel_rfl) (by kernel_rfl) (by kernel_rfl) (fun _ _ _ h => h) (Or.inl ⟨by rfl, ?_⟩) (by assumption) ?_
        rotate_left 1
        · intro w' hSw
          go_simp
          all_goals first | with_reducible rfl | (rw [if_neg (by omega)]; done) | (rw [if_pos (by omega)]; done) | (rw [if_neg (by omega)]; with_reducible rfl) | (rw [if_pos (by omega)]; with_reducible rfl)
        try simp only [List.getElem_toArray, List.getElem_cons_zero, List.getElem_cons_succ, Act.put, List.setIfInBounds_toArray, List.set_cons_zero, List.set_cons_succ]
        refine wpAnyH_ready (rs := [10]) (by kernel_rfl) (by simp) ?_
        refine AllReadyH.cons rfl (fun K hK => ?_) AllReadyH.nil
        go_simp
        refine hK.out _ _ ((T2.out.alloc _)) (fun hHeld => ?_)
        clear hK K
        try simp only [List.getElem_toArray, List.getElem_cons_zero, List.getElem_cons_succ, Act.put, List.setIfInBounds_toArray, List.set_cons_zero, List.set_cons_succ]
        refine wpAnyH_named (fun X3 e => ?_)
        clear hHeld
        have T3 := Lib.hid (T2.out.al e)
        have hH3 := T3.out
        have hz3 := size_al e
        have hy3 := T2.out.size
        have R3_16 := Lib.hid (R2_16.out.al e)
        have hl3_16 := R2_16.out.lt
        have B3_7 := Lib.hid (Blk.nw (cs := [.bool false, .slice none 0 0, .slice none 0 0, .slice none 0 0]) e)
        clear T2 hH2 R2_16 e
        refine wpAnyH_ready (rs := [11]) (by kernel_rfl) (by simp) ?_
        refine AllReadyH.cons rfl (fun K hK => ?_) AllReadyH.nil
        have r0 := B3_7.out.cell 0
        have f0 := B3_7.out.free 0
        have r1 := B3_7.out.cell 1
        have f1 := B3_7.out.free 1
        have r2 := B3_7.out.cell 2
        have f2 := B3_7.out.free 2
        have r3 := B3_7.out.cell 3
        have f3 := B3_7.out.free 3
        simp only [List.getElem?_cons_zero, List.getElem?_cons_succ] at r0 r1 r2 r3
        obtain ⟨hb, hs⟩ := put4 B3_7.out (.bool true) (.slice (some ⟨g_2, 0, none⟩) (b - a) c_2) (.slice none 0 0) (.slice none 0 0)
        have hx := T3.out.size
        have hS := (T3.out).trans_new (S := (fun _ => False)) hs (fun k hk e => by omega)
        go_simp
        refine hK.out _ _ hS (fun hHeld => ?_)
        clear hK K
        try simp only [List.getElem_toArray, List.getElem_cons_zero, List.getElem_cons_succ, Act.put, List.setIfInBounds_toArray, List.set_cons_zero, List.set_cons_succ]
        refine wpAnyH_named (fun X4 e => ?_)
        clear hHeld
        have T4 := Lib.hid (e ▸ hS)
        have hH4 := T4.out
        have B4_7 := Lib.hid (e ▸ hb)
        rw [← e] at hs
        have R4_16 := Lib.hid (R3_16.out.turn hs (by omega))
        clear T3 hH3 R3_16 B3_7 r0 f0 r1 f1 r2 f2 r3 f3 hS hb hs e
        refine wpAnyH_done (by kernel_rfl) ?_ _
        refine NoPanic.normal ?_
        generalize (if c1 = a then some a1 else some (a1.add a)) = I1
        all_goals go_wp2_with fail
        all_goals go_meet
        all_goals exact ⟨X2.heap.size, g_2, c_2, rfl, B4_7.out, R4_16.out, P2_16.out, by omega, by omega, by omega, T4.out⟩
      · go_simp
        refine hK.out _ _ ((T1.out.alloc _)) (fun hHeld => ?_)
        clear hK K
        try simp only [List.getElem_toArray, List.getElem_cons_zero, List.getElem_cons_succ, Act.put, List.setIfInBounds_toArray, List.set_cons_zero, List.set_cons_succ]
        refine wpAnyH_named (fun X2 e => ?_)
        clear hHeld
        have T2 := Lib.hid (T1.out.al e)
        have hH2 := T2.out
        have hz2 := size_al e
        have hy2 := T1.out.size
        have R2_10 := Lib.hid (R1_10.out.al e)
        have hl2_10 := R1_10.out.lt
        have B2_7 := Lib.hid (Blk.nw (cs := [.bool false, .slice none 0 0, .slice none 0 0, .slice none 0 0]) e)
        clear T1 hH1 R1_10 e
        refine wpAnyH_ready (rs := [8]) (by kernel_rfl) (by simp) ?_
        refine AllReadyH.cons rfl (fun K hK => ?_) AllReadyH.nil
        refine step_app_strsR rfl _ _ rfl (.slice (some ⟨X0.heap.size, 0, none⟩) 0 0) [] (KC) X0.heap.size (if c1 = a then some a1 else some (a1.add a)) (b - a) (c1 - a) (b - a) (HM1.out) (HN1.out) rfl rfl R2_10.out (HK.out.turn T2.out) PK.out HG1.out ?_
        intro g_3 c_3 X3 hg hr hc ht
        have hw : W.heap.size ≤ X0.heap.size := by omega
        have T3 := Lib.hid (T2.out.trans_new (S := fun _ => False) ht (fun k hk e => by omega))
        have hH3 := T3.out
        have hz3 := ht.size
        have hp := R2_10.out.lt
        have hy3 := T2.out.size
        have hv3 : W.heap.size ≤ g_3 := by omega
        have hm3_7 := B2_7.out.lt
        have B3_7 := Lib.hid (B2_7.out.turn ht (by omega))
        have hr3_7 : ¬ X1.heap.size = g_3 := by omega
        have R3_16 := Lib.hid hr
        have P3_16 := Lib.hid hc
        clear T2 hH2 R2_10 B2_7 hr hc ht hg hp hw
        refine hK.out _ _ hH3 (fun hHeld => ?_)
        clear hK K hHeld
        try simp only [List.getElem_toArray, List.getElem_cons_zero, List.getElem_cons_succ, Act.put, List.setIfInBounds_toArray, List.set_cons_zero, List.set_cons_succ]
        refine wpAnyH_take (i := 9) (v := ?_) rfl (by kernel_rfl) (by kernel_rfl) (by kernel_rfl) (fun _ _ _ h => h) (Or.inl ⟨by rfl, ?_⟩) (by assumption) ?_
        rotate_left 1
        · intro w' hSw
          go_simp
          all_goals first | with_reducible rfl | (rw [if_neg (by omega)]; done) | (rw [if_pos (by omega)]; done) | (rw [if_neg (by omega)]; with_reducible rfl) | (rw [if_pos (by omega)]; with_reducible rfl)
        try simp only [List.getElem_toArray, List.getElem_cons_zero, List.getElem_cons_succ, Act.put, List.setIfInBounds_toArray, List.set_cons_zero, List.set_cons_succ]
        refine wpAnyH_ready (rs := [11]) (by kernel_rfl) (by simp) ?_
        refine AllReadyH.cons rfl (fun K hK => ?_) AllReadyH.nil
        have r0 := B3_7.out.cell 0
        have f0 := B3_7.out.free 0
        have r1 := B3_7.out.cell 1
        have f1 := B3_7.out.free 1
        have r2 := B3_7.out.cell 2
        have f2 := B3_7.out.free 2
        have r3 := B3_7.out.cell 3
        have f3 := B3_7.out.free 3
        simp only [List.getElem?_cons_zero, List.getElem?_cons_succ] at r0 r1 r2 r3
        obtain ⟨hb, hs⟩ := put4 B3_7.out (.bool true) (.slice (some ⟨g_3, 0, none⟩) (b - a) c_3) (.slice none 0 0) (.slice none 0 0)
        have hx := T3.out.size
        have hS := (T3.out).trans_new (S := (fun _ => False)) hs (fun k hk e => by omega)
        go_simp
        refine hK.out _ _ hS (fun hHeld => ?_)
        clear hK K
        try simp only [List.getElem_toArray, List.getElem_cons_zero, List.getElem_cons_succ, Act.put, List.setIfInBounds_toArray, List.set_cons_zero, List.set_cons_succ]
        refine wpAnyH_named (fun X4 e => ?_)
        clear hHeld
        have T4 := Lib.hid (e ▸ hS)
        have hH4 := T4.out
        have B4_7 := Lib.hid (e ▸ hb)
        rw [← e] at hs
        have R4_16 := Lib.hid (R3_16.out.turn hs (by omega))
        clear T3 hH3 R3_16 B3_7 r0 f0 r1 f1 r2 f2 r3 f3 hS hb hs e
        refine wpAnyH_done (by kernel_rfl) ?_ _
        refine NoPanic.normal ?_
        generalize (if c1 = a then some a1 else some (a1.add a)) = I1
        all_goals go_wp2_with fail
        all_goals go_meet
        all_goals exact ⟨X1.heap.size, g_3, c_3, rfl, B4_7.out, R4_16.out, P3_16.out, by omega, by omega, by omega, T4.out⟩
    · go_simp
      refine hK.out _ _ ((T0.out.alloc _)) (fun hHeld => ?_)
      clear hK K
      try simp only [List.getElem_toArray, List.getElem_cons_zero, List.getElem_cons_succ, Act.put, List.setIfInBounds_toArray, List.set_cons_zero, List.set_cons_succ]
      refine wpAnyH_named (fun X1 e => ?_)
      clear hHeld
      have T1 := Lib.hid (T0.out.al e)
      have hH1 := T1.out
      have hz1 := size_al e
      have hy1 := T0.out.size
      have B1_7 := Lib.hid (Blk.nw (cs := [.bool false, .slice none 0 0, .slice none 0 0, .slice none 0 0]) e)
      clear T0 hH0 e
      refine wpAnyH_ready (rs := [2]) (by kernel_rfl) (by simp) ?_
      refine AllReadyH.cons rfl (fun K hK => ?_) AllReadyH.nil
      go_simp
      refine hK.out _ _ ((T1.out.alloc _)) (fun hHeld => ?_)
      clear hK K
      try simp only [List.getElem_toArray, List.getElem_cons_zero, List.getElem_cons_succ, Act.put, List.setIfInBounds_toArray, List.set_cons_zero, List.set_cons_succ]
      refine wpAnyH_named (fun X2 e => ?_)
      clear hHeld
      have T2 := Lib.hid (T1.out.al e)
      have hH2 := T2.out
      have hz2 := size_al e
      have hy2 := T1.out.size
      have B2_7 := Lib.hid (B1_7.out.al e)
      have hm2_7 := B1_7.out.lt
      have R2_10 := Lib.hid (Ro.empS e)
      clear T1 hH1 B1_7 e
      refine wpAnyH_ready (rs := [8]) (by kernel_rfl) (by simp) ?_
      refine AllReadyH.cons rfl (fun K hK => ?_) AllReadyH.nil
      refine step_app_strsR rfl _ _ rfl (.slice (some ⟨X1.heap.size, 0, none⟩) 0 0) [] (KC) X1.heap.size (if c1 = a then some a1 else some (a1.add a)) (b - a) (c1 - a) (b - a) (HM1.out) (HN1.out) rfl rfl R2_10.out (HK.out.turn T2.out) PK.out HG1.out ?_
      intro g_3 c_3 X3 hg hr hc ht
      have hw : W.heap.size ≤ X1.heap.size := by omega
      have T3 := Lib.hid (T2.out.trans_new (S := fun _ => False) ht (fun k hk e => by omega))
      have hH3 := T3.out
      have hz3 := ht.size
      have hp := R2_10.out.lt
      have hy3 := T2.out.size
      have hv3 : W.heap.size ≤ g_3 := by omega
      have hm3_7 := B2_7.out.lt
      have B3_7 := Lib.hid (B2_7.out.turn ht (by omega))
      have hr3_7 : ¬ X0.heap.size = g_3 := by omega
      have R3_16 := Lib.hid hr
      have P3_16 := Lib.hid hc
      clear T2 hH2 R2_10 B2_7 hr hc ht hg hp hw
      refine hK.out _ _ hH3 (fun hHeld => ?_)
      clear hK K hHeld
      try simp only [List.getElem_toArray, List.getElem_cons_zero, List.getElem_cons_succ, Act.put, List.setIfInBounds_toArray, List.set_cons_zero, List.set_cons_succ]
      refine wpAnyH_take (i := 9) (v := ?_) rfl (by kernel_rfl) (by kernel_rfl) (by kernel_rfl) (fun _ _ _ h => h) (Or.inl ⟨by rfl, ?_⟩) (by assumption) ?_
      rotate_left 1
      · intro w' hSw
        go_simp
        all_goals first | with_reducible rfl | (rw [if_neg (by omega)]; done) | (rw [if_pos (by omega)]; done) | (rw [if_neg (by omega)]; with_reducible rfl) | (rw [if_pos (by omega)]; with_reducible rfl)
      try simp only [List.getElem_toArray, List.getElem_cons_zero, List.getElem_cons_succ, Act.put, List.setIfInBounds_toArray, List.set_cons_zero, List.set_cons_succ]
      refine wpAnyH_ready (rs := [11]) (by kernel_rfl) (by simp) ?_
      refine AllReadyH.cons rfl (fun K hK => ?_) AllReadyH.nil
      have r0 := B3_7.out.cell 0
      have f0 := B3_7.out.free 0
      have r1 := B3_7.out.cell 1
      have f1 := B3_7.out.free 1
      have r2 := B3_7.out.cell 2
      have f2 := B3_7.out.free 2
      have r3 := B3_7.out.cell 3
      have f3 := B3_7.out.free 3
      simp only [List.getElem?_cons_zero, List.getElem?_cons_succ] at r0 r1 r2 r3
      obtain ⟨hb, hs⟩ := put4 B3_7.out (.bool true) (.slice (some ⟨g_3, 0, none⟩) (b - a) c_3) (.slice none 0 0) (.slice none 0 0)
      have hx := T3.out.size
      have hS := (T3.out).trans_new (S := (fun _ => False)) hs (fun k hk e => by omega)
      go_simp
      refine hK.out _ _ hS (fun hHeld => ?_)
      clear hK K
      try simp only [List.getElem_toArray, List.getElem_cons_zero, List.getElem_cons_succ, Act.put, List.setIfInBounds_toArray, List.set_cons_zero, List.set_cons_succ]
      refine wpAnyH_named (fun X4 e => ?_)
      clear hHeld
      have T4 := Lib.hid (e ▸ hS)
      have hH4 := T4.out
      have B4_7 := Lib.hid (e ▸ hb)
      rw [← e] at hs
      have R4_16 := Lib.hid (R3_16.out.turn hs (by omega))
      clear T3 hH3 R3_16 B3_7 r0 f0 r1 f1 r2 f2 r3 f3 hS hb hs e
      refine wpAnyH_done (by kernel_rfl) ?_ _
      refine NoPanic.normal ?_
      generalize (if c1 = a then some a1 else some (a1.add a)) = I1
      all_goals go_wp2_with fail
      all_goals go_meet
      all_goals exact ⟨X0.heap.size, g_3, c_3, rfl, B4_7.out, R4_16.out, P3_16.out, by omega, by omega, by omega, T4.out⟩
  case rest =>
    obtain ⟨Y, gA, cA, rfl, hBY, hRA, hpA, hWY, hWg, hYg, hTX⟩ := hcut
    rw [List.nil_append] at hRA
    have PA := Lib.hid hpA
    have x0 : wc.cell? ⟨w.heap.size, 0, none⟩ = some (.bool true) := (B0.out.turn hTX (fun h => h)).cell 0
    have hca := HCA.out
    have HV2 := HV.out
    have PV2 := PV.out
    rw [if_neg hca] at HV2 PV2
    have HV3 := Lib.hid HV2
    have PV3 := Lib.hid PV2
    clear HV2 PV2
    have BY := Lib.hid hBY
    have RA := Lib.hid hRA
    have RR := Lib.hid (R0.out.turn hTX (fun h => h))
    have TX := Lib.hid hTX
    have x2 : wc.cell? ⟨w.heap.size, 2, none⟩ = some (.slice (some a2) nv c2) := (B0.out.turn hTX (fun h => h)).cell 2
    have hxl := hTX.size
    have hYl := hBY.lt
    have hgl := hRA.lt
    have hwl : w.heap.size < wc.heap.size := by omega
    clear hBY hRA hTX hpA
    go_wp2_with (at_builtin; refine wpList_app_strsR rfl _ _ rfl (.slice (some ⟨wc.heap.size, 0, none⟩) 0 0) [] VC wc.heap.size (some (a2.add a)) (b - a) (c2 - a) (b - a) HM2.out HN2.out rfl rfl (Ro.empty wc _) (HV3.out.turn (TX.out.alloc _)) PV3.out HG2.out ?_; intro gB cB X hg hr hc ht; have hz := ht.size; rw [World.size_alloc] at hz hg; have hB7 := Lib.hid ((BY.out.alloc (.cells #[] 9)).turn ht (by omega)); have hR6 := Lib.hid ((RR.out.alloc (.cells #[] 9)).turn ht (by omega)); have hRA := Lib.hid ((RA.out.alloc (.cells #[] 9)).turn ht (by omega)); have hRB := Lib.hid hr; have PB := Lib.hid hc; have TX2 := Lib.hid ((TX.out.alloc (.cells #[] 9)).trans_new ht (fun k hk e => by omega)); have hgB : W.heap.size ≤ gB := (by omega); have hYB : ¬ Y = gB := (by omega); have hAB : ¬ gA = gB := (by omega); have s0 := hB7.out.cell 0; have s1 := hB7.out.cell 1; have s2 := hB7.out.cell 2; have s3 := hB7.out.cell 3; have h0 := hB7.out.free 0; have h1 := hB7.out.free 1; have h2 := hB7.out.free 2; have h3 := hB7.out.free 3; have BP := Lib.hid (hB7.out.put 2 (.slice (some ⟨gB, 0, none⟩) (b - a) cB)); have TP := Lib.hid ((Turn.refl (fun k => k = Y) X).setCell (p := ⟨Y, 2, none⟩) (.inl rfl) (.slice (some ⟨gB, 0, none⟩) (b - a) cB)); have RP := Lib.hid (hR6.out.turn TP.out (by omega)); have r0 := RP.out.cell 0; have r1 := RP.out.cell 1; have r2 := RP.out.cell 2; have r3 := RP.out.cell 3; have f0 := RP.out.free 0; have f1 := RP.out.free 1; have f2 := RP.out.free 2; have f3 := RP.out.free 3; have u0 := BP.out.cell 0; have u1 := BP.out.cell 1; have u2 := BP.out.cell 2; have u3 := BP.out.cell 3; simp only [List.getElem?_cons_zero, List.getElem?_cons_succ, List.set_cons_zero, List.set_cons_succ] at s0 s1 s2 s3 r0 r1 r2 r3 u0 u1 u2 u3; clear hr hc ht hg)
    obtain ⟨hf, htf⟩ := put4 RP.out (.bool true) (.slice (some ⟨gA, 0, none⟩) (b - a) cA) (.slice (some ⟨gB, 0, none⟩) (b - a) cB) (.slice none 0 0)
    have e0 := hf.cell 0
    have e1 := hf.cell 1
    have e2 := hf.cell 2
    have e3 := hf.cell 3
    simp only [List.getElem?_cons_zero, List.getElem?_cons_succ] at e0 e1 e2 e3
    have htt := ((T0.out.trans TX2.out).trans_new TP.out (fun k hk e => by omega)).trans_new htf (fun k hk e => by omega)
    have hs1 := fun X1 (hX : Turn (fun k => k < w.heap.size) (((((X.setCell ⟨Y, 2, none⟩ (.slice (some ⟨gB, 0, none⟩) (b - a) cB)).setCell ⟨w.heap.size + 1, 0, none⟩ (.bool true)).setCell ⟨w.heap.size + 1, 1, none⟩ (.slice (some ⟨gA, 0, none⟩) (b - a) cA)).setCell ⟨w.heap.size + 1, 2, none⟩ (.slice (some ⟨gB, 0, none⟩) (b - a) cB)).setCell ⟨w.heap.size + 1, 3, none⟩ (.slice none 0 0)) X1) => (((hRA.out.turn TP.out (by omega)).turn htf (by omega)).turn hX (by omega)).sr
    have hs2 := fun X1 (hX : Turn (fun k => k < w.heap.size) (((((X.setCell ⟨Y, 2, none⟩ (.slice (some ⟨gB, 0, none⟩) (b - a) cB)).setCell ⟨w.heap.size + 1, 0, none⟩ (.bool true)).setCell ⟨w.heap.size + 1, 1, none⟩ (.slice (some ⟨gA, 0, none⟩) (b - a) cA)).setCell ⟨w.heap.size + 1, 2, none⟩ (.slice (some ⟨gB, 0, none⟩) (b - a) cB)).setCell ⟨w.heap.size + 1, 3, none⟩ (.slice none 0 0)) X1) => (((hRB.out.turn TP.out (by omega)).turn htf (by omega)).turn hX (by omega)).sr
    clear hf htf r0 r1 r2 r3 f0 f1 f2 f3 x0 x2 s0 s1 s2 s3 u0 u1 u2 u3 h0 h1 h2 h3 BP RP
    generalize (((((X.setCell ⟨Y, 2, none⟩ (.slice (some ⟨gB, 0, none⟩) (b - a) cB)).setCell ⟨w.heap.size + 1, 0, none⟩ (.bool true)).setCell ⟨w.heap.size + 1, 1, none⟩ (.slice (some ⟨gA, 0, none⟩) (b - a) cA)).setCell ⟨w.heap.size + 1, 2, none⟩ (.slice (some ⟨gB, 0, none⟩) (b - a) cB)).setCell ⟨w.heap.size + 1, 3, none⟩ (.slice none 0 0)) = WF at *
    exact bodyPost_ret (v := .agg #[.bool true, .slice (some ⟨gA, 0, none⟩) (b - a) cA, .slice (some ⟨gB, 0, none⟩) (b - a) cB, .slice none 0 0]) (by simp [results, Try.results45, go_sem, e0, e1, e2, e3]) rfl ⟨_, rfl, ⟨some ⟨gA, 0, none⟩, cA, some ⟨gB, 0, none⟩, cB, none, 0, by rw [HD.out]; simp only [nv8]; rw [HLK.out, HLV.out]; rfl, by rw [HD.out]; exact fun X1 hX => ⟨hs1 X1 hX, hs2 X1 hX, nr_nil _ _⟩, by rw [HD.out]; show Cp _ (List.length _) _ ∧ Cp _ (List.length _) _ ∧ Cp _ (List.length _) _; rw [HLK.out, HLV.out]; exact ⟨PA.out, PB.out, ⟨Nat.le_refl _, by unfold maxLen; decide, fun _ => rfl⟩⟩⟩, htt⟩
set_option maxHeartbeats 8000000 in
theorem refPartK_any (n : Nd) (a b : Nat) (A1 : Option Addr) (c1 : Nat) (A2 : Option Addr) (c2 : Nat) (A3 : Option Addr) (c3 : Nat) (w : World) (h : No w A1 c1 A2 c2 A3 c3 n) (hc1 : Cp A1 n.keys.length c1) (hc2 : Cp A2 n.vals.length c2) (hc3 : Cp A3 n.kids.length c3) (hlf : n.leaf = false) (hv : n.kids.length = n.keys.length + 1) (h0 : 0 < n.keys.length) (h2 : n.keys.length ≤ 2000) (hab : a < b) (hb : b ≤ n.keys.length) :
    Calls Try.prog 45 #[nv8 A1 c1 A2 c2 A3 c3 n, .int .i64 a, .int .i64 b] w fun e w' => ∃ v, e = .returned v ∧ NoF w w' v (part8 n a b) ∧ Turn (fun _ => False) w w' := by
  obtain ⟨a1, rfl⟩ : ∃ a, A1 = some a := by obtain ⟨b, o, e, _⟩ := h.keys (by omega); exact ⟨_, e⟩
  obtain ⟨a3, rfl⟩ : ∃ a, A3 = some a := by obtain ⟨b, o, e, _⟩ := h.kids (by omega); exact ⟨_, e⟩
  obtain ⟨q, hq⟩ : ∃ q, b + 1 = q := ⟨_, rfl⟩
  have hk := (h.keys.take b).drop (c := c1) (by have := hc1.le; rw [List.length_take]; omega) a
  have pk := (hc1.take (q := b) hb).drop (q := a) (by omega)
  have hvv := (h.kids.take q).drop (c := c3) (by have := hc3.le; rw [List.length_take]; omega) a
  have pv := (hc3.take (q := q) (by omega)).drop (q := a) (by omega)
  unfold off8 at hk pk hvv pv
  simp only at hk pk hvv pv
  have l1 := hc1.le
  have l2 := hc3.le
  have m1 := hc1.cm
  have m2 := hc3.cm
  unfold maxLen at m1 m2
  have HD : Hid (part8 n a b = ⟨false, (n.keys.take b).drop a, [], (n.kids.take q).drop a⟩) := Lib.hid (by unfold part8; rw [hlf]; subst hq; rfl)
  generalize part8 n a b = DN at *
  have lk : ((n.keys.take b).drop a).length = b - a := len_cut _ _ _ hb
  have lv : ((n.kids.take q).drop a).length = (q - a) := len_cut _ _ _ (by omega)
  have HM1 := Lib.hid lk
  have HM2 := Lib.hid lv
  have HLK := Lib.hid lk
  have HLV := Lib.hid lv
  have HG1 : Hid (([] : List ByteArray).length + ((n.keys.take b).drop a).length ≤ 100000) := Lib.hid (by rw [lk]; simp; omega)
  have HG2 : Hid (([] : List Int).length + ((n.kids.take q).drop a).length ≤ 100000) := Lib.hid (by rw [lv]; simp; omega)
  have HN1 : Hid (([] ++ (n.keys.take b).drop a).length = b - a) := Lib.hid (by rw [List.nil_append]; exact lk)
  have HN2 : Hid (([] ++ (n.kids.take q).drop a).length = (q - a)) := Lib.hid (by rw [List.nil_append]; exact lv)
  generalize (n.keys.take b).drop a = KC at *
  generalize (n.kids.take q).drop a = VC at *
  have T0 := Lib.hid (((Turn.refl (fun _ => False) w).alloc (.cells #[.bool false, .slice (some a1) n.keys.length c1, .slice A2 n.vals.length c2, .slice (some a3) n.kids.length c3] 26)).alloc (.cells #[.bool false, .slice none 0 0, .slice none 0 0, .slice none 0 0] 26))
  have B0 := Lib.hid (box_two w [.bool false, .slice (some a1) n.keys.length c1, .slice A2 n.vals.length c2, .slice (some a3) n.kids.length c3] [.bool false, .slice none 0 0, .slice none 0 0, .slice none 0 0]).1
  have R0 := Lib.hid (box_two w [.bool false, .slice (some a1) n.keys.length c1, .slice A2 n.vals.length c2, .slice (some a3) n.kids.length c3] [.bool false, .slice none 0 0, .slice none 0 0, .slice none 0 0]).2
  simp only [nv8]
  rw [hlf]
  generalize n.keys.length = nk at *
  generalize n.vals.length = nv at *
  generalize n.kids.length = nd at *
  have z1 : (0 : Int) ≤ (a : Int) := by omega
  have z2 : (a : Int) ≤ (b : Int) := by omega
  have z3 : (b : Int) ≤ (c1 : Int) := by omega
  have z4 : (q : Int) ≤ (c3 : Int) := by omega
  have z6 : (a : Int) ≤ (q : Int) := by omega
  have z7 := wrap_of (q : Int) (by omega) (by omega)
  have hqq : (b : Int) + 1 = (q : Int) := by omega
  clear h hc1 hc2 hc3 lk lv l1 l2 h2 hv hlf hb
  clear hq
  have HCA : Hid (¬ c3 = a) := Lib.hid (by omega)
  clear hab
  go_enter Try.func45, Try.ntmps45
  go_wp2_with fail
  generalize hW : (w.alloc (.cells #[.bool false, .slice (some a1) nk c1, .slice A2 nv c2, .slice (some a3) nd c3] 26)).alloc (.cells #[.bool false, .slice none 0 0, .slice none 0 0, .slice none 0 0] 26) = W at *
  have HK := Lib.hid (hk.turn T0.out)
  have PK := Lib.hid pk
  have HV := Lib.hid (hvv.turn T0.out)
  have PV := Lib.hid pv
  have hw1 : w.heap.size + 1 < W.heap.size := R0.out.lt
  clear hk pk hvv pv hW
  go_cut [7] (fun a7 wx => ∃ (Y gA cA : Nat), a7 = .pointer (some ⟨Y, 0, none⟩) ∧ Blk wx Y 26 [.bool false, .slice (some ⟨gA, 0, none⟩) (b - a) cA, .slice none 0 0, .slice none 0 0] ∧ Ro wx 9 (.slice (some ⟨gA, 0, none⟩) (b - a) cA) (([] ++ KC).map Value.string) gA ∧ Cp (some ⟨gA, 0, none⟩) (b - a) cA ∧ W.heap.size ≤ Y ∧ W.heap.size ≤ gA ∧ ¬ Y = gA ∧ Turn (fun _ => False) W wx)
  case first =>
    refine wp_region_noPanic ?_
    refine wp_region_held_drew (S := fun X => Turn (fun _ => False) W X) (by kernel_rfl) ((Turn.refl (fun _ => False) W).drew) (fun hHeld => ?_)
    refine wpAnyH_named (fun X0 hX0 => ?_)
    clear hHeld
    have T0 : Hid (Turn (fun _ => False) W X0) := Lib.hid (by rw [hX0]; exact (Turn.refl (fun _ => False) W).drew)
    have hH0 := T0.out
    clear hX0
    refine wpAnyH_take (i := 0) (v := ?_) rfl (by kernel_rfl) (by kernel_rfl) (by kernel_rfl) (fun _ _ _ h => h) (Or.inl ⟨by rfl, ?_⟩) (by assumption) ?_
    rotate_left 1
    · intro w' hSw
      go_simp
      all_goals first | with_reducible rfl | (rw [if_neg (by omega)]; done) | (rw [if_pos (by omega)]; done) | (rw [if_neg (by omega)]; with_reducible rfl) | (rw [if_pos (by omega)]; with_reducible rfl)
    try simp only [List.getElem_toArray, List.getElem_cons_zero, List.getElem_cons_succ, Act.put, List.setIfInBounds_toArray, List.set_cons_zero, List.set_cons_succ]
    refine wpAnyH_take (i := 1) (v := ?_) rfl (by kernel_rfl) (by kernel_rfl) (by kernel_rfl) (fun _ _ _ h => h) (Or.inl ⟨by rfl, ?_⟩) (by assumption) ?_
    rotate_left 1
    · intro w' hSw
      have x0 : w'.cell? ⟨w.heap.size, 0, none⟩ = some (.bool false) := (B0.out.turn hSw (fun h => h)).cell 0
      go_simp
      all_goals first | with_reducible rfl | (rw [if_neg (by omega)]; done) | (rw [if_pos (by omega)]; done) | (rw [if_neg (by omega)]; with_reducible rfl) | (rw [if_pos (by omega)]; with_reducible rfl)
    try simp only [List.getElem_toArray, List.getElem_cons_zero, List.getElem_cons_succ, Act.put, List.setIfInBounds_toArray, List.set_cons_zero, List.set_cons_succ]
    refine wpAnyH_take (i := 3) (v := ?_) rfl (by kernel_rfl) (by kernel_rfl) (by kernel_rfl) (fun _ _ _ h => h) (Or.inl ⟨by rfl, ?_⟩) (by assumption) ?_
    rotate_left 1
    · intro w' hSw
      go_simp
      all_goals first | with_reducible rfl | (rw [if_neg (by omega)]; done) | (rw [if_pos (by omega)]; done) | (rw [if_neg (by omega)]; with_reducible rfl) | (rw [if_pos (by omega)]; with_reducible rfl)
    try simp only [List.getElem_toArray, List.getElem_cons_zero, List.getElem_cons_succ, Act.put, List.setIfInBounds_toArray, List.set_cons_zero, List.set_cons_succ]
    refine wpAnyH_take (i := 4) (v := ?_) rfl (by kernel_rfl) (by kernel_rfl) (by kernel_rfl) (fun _ _ _ h => h) (Or.inl ⟨by rfl, ?_⟩) (by assumption) ?_
    rotate_left 1
    · intro w' hSw
      have x1 : w'.cell? ⟨w.heap.size, 1, none⟩ = some (.slice (some a1) nk c1) := (B0.out.turn hSw (fun h => h)).cell 1
      go_simp
      all_goals first | with_reducible rfl | (rw [if_neg (by omega)]; done) | (rw [if_pos (by omega)]; done) | (rw [if_neg (by omega)]; with_reducible rfl) | (rw [if_pos (by omega)]; with_reducible rfl)
    try simp only [List.getElem_toArray, List.getElem_cons_zero, List.getElem_cons_succ, Act.put, List.setIfInBounds_toArray, List.set_cons_zero, List.set_cons_succ]
    refine wpAnyH_take (i := 5) (v := ?_) rfl (by kernel_rfl) (by kernel_rfl) (by kernel_rfl) (fun _ _ _ h => h) (Or.inl ⟨by rfl, ?_⟩) (by assumption) ?_
    rotate_left 1
    · intro w' hSw
      go_simp
      all_goals first | with_reducible rfl | (rw [if_neg (by omega)]; done) | (rw [if_pos (by omega)]; done) | (rw [if_neg (by omega)]; with_reducible rfl) | (rw [if_pos (by omega)]; with_reducible rfl)
    try simp only [List.getElem_toArray, List.getElem_cons_zero, List.getElem_cons_succ, Act.put, List.setIfInBounds_toArray, List.set_cons_zero, List.set_cons_succ]
    refine wpAnyH_take (i := 6) (v := ?_) rfl (by kernel_rfl) (by kernel_rfl) (by kernel_rfl) (fun _ _ _ h => h) (Or.inl ⟨by rfl, ?_⟩) (by assumption) ?_
    rotate_left 1
    · intro w' hSw
      go_simp
      all_goals first | with_reducible rfl | (rw [if_neg (by omega)]; done) | (rw [if_pos (by omega)]; done) | (rw [if_neg (by omega)]; with_reducible rfl) | (rw [if_pos (by omega)]; with_reducible rfl)
    try simp only [List.getElem_toArray, List.getElem_cons_zero, List.getElem_cons_succ, Act.put, List.setIfInBounds_toArray, List.set_cons_zero, List.set_cons_succ]
    refine wpAnyH_take (i := 7) (v := ?_) rfl (by kernel_rfl) (by kernel_rfl) (by kernel_rfl) (fun _ _ _ h => h) (Or.inl ⟨by rfl, ?_⟩) (by assumption) ?_
    rotate_left 1
    · intro w' hSw
      go_simp
      all_goals first | with_reducible rfl | (rw [if_neg (by omega)]; done) | (rw [if_pos (by omega)]; done) | (rw [if_neg (by omega)]; with_reducible rfl) | (rw [if_pos (by omega)]; with_reducible rfl)
    try simp only [List.getElem_toArray, List.getElem_cons_zero, List.getElem_cons_succ, Act.put, List.setIfInBounds_toArray, List.set_cons_zero, List.set_cons_succ]
    refine wpAnyH_ready (rs := [2, 10]) (by kernel_rfl) (by simp) ?_
    refine AllReadyH.cons rfl (fun K hK => ?_) (AllReadyH.cons rfl (fun K hK => ?_) AllReadyH.nil)
    · go_simp
      refine hK.out _ _ ((T0.out.alloc _)) (fun hHeld => ?_)
      clear hK K
      try simp only [List.getElem_toArray, List.getElem_cons_zero, List.getElem_cons_succ, Act.put, List.setIfInBounds_toArray, List.set_cons_zero, List.set_cons_succ]
      refine wpAnyH_named (fun X1 e => ?_)
      clear hHeld
      have T1 := Lib.hid (T0.out.al e)
      have hH1 := T1.out
      have hz1 := size_al e
      have hy1 := T0.out.size
      have R1_10 := Lib.hid (Ro.empS e)
      clear T0 hH0 e
      refine wpAnyH_ready (rs := [8, 10]) (by kernel_rfl) (by simp) ?_
      refine AllReadyH.cons rfl (fun K hK => ?_) (AllReadyH.cons rfl (fun K hK => ?_) AllReadyH.nil)
      · refine step_app_strsR rfl _ _ rfl (.slice (some ⟨X0.heap.size, 0, none⟩) 0 0) [] (KC) X0.heap.size (if c1 = a then some a1 else some (a1.add a)) (b - a) (c1 - a) (b - a) (HM1.out) (HN1.out) rfl rfl R1_10.out (HK.out.turn T1.out) PK.out HG1.out ?_
        intro g_2 c_2 X2 hg hr hc ht
        have hw : W.heap.size ≤ X0.heap.size := by omega
        have T2 := Lib.hid (T1.out.trans_new (S := fun _ => False) ht (fun k hk e => by omega))
        have hH2 := T2.out
        have hz2 := ht.size
        have hp := R1_10.out.lt
        have hy2 := T1.out.size
        have hv2 : W.heap.size ≤ g_2 := by omega
        have R2_16 := Lib.hid hr
        have P2_16 := Lib.hid hc
        clear T1 hH1 R1_10 hr hc ht hg hp hw
        refine hK.out _ _ hH2 (fun hHeld => ?_)
        clear hK K hHeld
        try simp only [List.getElem_toArray, List.getElem_cons_zero, List.getElem_cons_succ, Act.put, List.setIfInBounds_toArray, List.set_cons_zero, List.set_cons_succ]
        refine wpAnyH_take (i := 9) (v := ?_) rfl (by kernel_rfl) (by kernel_rfl) (by kernel_rfl) (fun _ _ _ h => h) (Or.inl ⟨by rfl, ?_⟩) (by assumption) ?_
        rotate_left 1
        · intro w' hSw
          go_simp
          all_goals first | with_reducible rfl | (rw [if_neg (by omega)]; done) | (rw [if_pos (by omega)]; done) | (rw [if_neg (by omega)]; with_reducible rfl) | (rw [if_pos (by omega)]; with_reducible rfl)
        try simp only [List.getElem_toArray, List.getElem_cons_zero, List.getElem_cons_succ, Act.put, List.setIfInBounds_toArray, List.set_cons_zero, List.set_cons_succ]
        refine wpAnyH_ready (rs := [10]) (by kernel_rfl) (by simp) ?_
        refine AllReadyH.cons rfl (fun K hK => ?_) AllReadyH.nil
        go_simp
        refine hK.out _ _ ((T2.out.alloc _)) (fun hHeld => ?_)
        clear hK K
        try simp only [List.getElem_toArray, List.getElem_cons_zero, List.getElem_cons_succ, Act.put, List.setIfInBounds_toArray, List.set_cons_zero, List.set_cons_succ]
        refine wpAnyH_named (fun X3 e => ?_)
        clear hHeld
        have T3 := Lib.hid (T2.out.al e)
        have hH3 := T3.out
        have hz3 := size_al e
        have hy3 := T2.out.size
        have R3_16 := Lib.hid (R2_16.out.al e)
        have hl3_16 := R2_16.out.lt
        have B3_7 := Lib.hid (Blk.nw (cs := [.bool false, .slice none 0 0, .slice none 0 0, .slice none 0 0]) e)
        clear T2 hH2 R2_16 e
        refine wpAnyH_ready (rs := [11]) (by kernel_rfl) (by simp) ?_
        refine AllReadyH.cons rfl (fun K hK => ?_) AllReadyH.nil
        have r0 := B3_7.out.cell 0
        have f0 := B3_7.out.free 0
        have r1 := B3_7.out.cell 1
        have f1 := B3_7.out.free 1
        have r2 := B3_7.out.cell 2
        have f2 := B3_7.out.free 2
        have r3 := B3_7.out.cell 3
        have f3 := B3_7.out.free 3
        simp only [List.getElem?_cons_zero, List.getElem?_cons_succ] at r0 r1 r2 r3
        obtain ⟨hb, hs⟩ := put4 B3_7.out (.bool false) (.slice (some ⟨g_2, 0, none⟩) (b - a) c_2) (.slice none 0 0) (.slice none 0 0)
        have hx := T3.out.size
        have hS := (T3.out).trans_new (S := (fun _ => False)) hs (fun k hk e => by omega)
        go_simp
        refine hK.out _ _ hS (fun hHeld => ?_)
        clear hK K
        try simp only [List.getElem_toArray, List.getElem_cons_zero, List.getElem_cons_succ, Act.put, List.setIfInBounds_toArray, List.set_cons_zero, List.set_cons_succ]
        refine wpAnyH_named (fun X4 e => ?_)
        clear hHeld
        have T4 := Lib.hid (e ▸ hS)
        have hH4 := T4.out
        have B4_7 := Lib.hid (e ▸ hb)
        rw [← e] at hs
        have R4_16 := Lib.hid (R3_16.out.turn hs (by omega))
        clear T3 hH3 R3_16 B3_7 r0 f0 r1 f1 r2 f2 r3 f3 hS hb hs e
        refine wpAnyH_done (by kernel_rfl) ?_ _
        refine NoPanic.normal ?_
        generalize (if c1 = a then some a1 else some (a1.add a)) = I1
        all_goals go_wp2_with fail
        all_goals go_meet
        all_goals exact ⟨X2.heap.size, g_2, c_2, rfl, B4_7.out, R4_16.out, P2_16.out, by omega, by omega, by omega, T4.out⟩
      · go_simp
        refine hK.out _ _ ((T1.out.alloc _)) (fun hHeld => ?_)
        clear hK K
        try simp only [List.getElem_toArray, List.getElem_cons_zero, List.getElem_cons_succ, Act.put, List.setIfInBounds_toArray, List.set_cons_zero, List.set_cons_succ]
        refine wpAnyH_named (fun X2 e => ?_)
        clear hHeld
        have T2 := Lib.hid (T1.out.al e)
        have hH2 := T2.out
        have hz2 := size_al e
        have hy2 := T1.out.size
        have R2_10 := Lib.hid (R1_10.out.al e)
        have hl2_10 := R1_10.out.lt
        have B2_7 := Lib.hid (Blk.nw (cs := [.bool false, .slice none 0 0, .slice none 0 0, .slice none 0 0]) e)
        clear T1 hH1 R1_10 e
        refine wpAnyH_ready (rs := [8]) (by kernel_rfl) (by simp) ?_
        refine AllReadyH.cons rfl (fun K hK => ?_) AllReadyH.nil
        refine step_app_strsR rfl _ _ rfl (.slice (some ⟨X0.heap.size, 0, none⟩) 0 0) [] (KC) X0.heap.size (if c1 = a then some a1 else some (a1.add a)) (b - a) (c1 - a) (b - a) (HM1.out) (HN1.out) rfl rfl R2_10.out (HK.out.turn T2.out) PK.out HG1.out ?_
        intro g_3 c_3 X3 hg hr hc ht
        have hw : W.heap.size ≤ X0.heap.size := by omega
        have T3 := Lib.hid (T2.out.trans_new (S := fun _ => False) ht (fun k hk e => by omega))
        have hH3 := T3.out
        have hz3 := ht.size
        have hp := R2_10.out.lt
        have hy3 := T2.out.size
        have hv3 : W.heap.size ≤ g_3 := by omega
        have hm3_7 := B2_7.out.lt
        have B3_7 := Lib.hid (B2_7.out.turn ht (by omega))
        have hr3_7 : ¬ X1.heap.size = g_3 := by omega
        have R3_16 := Lib.hid hr
        have P3_16 := Lib.hid hc
        clear T2 hH2 R2_10 B2_7 hr hc ht hg hp hw
        refine hK.out _ _ hH3 (fun hHeld => ?_)
        clear hK K hHeld
        try simp only [List.getElem_toArray, List.getElem_cons_zero, List.getElem_cons_succ, Act.put, List.setIfInBounds_toArray, List.set_cons_zero, List.set_cons_succ]
        refine wpAnyH_take (i := 9) (v := ?_) rfl (by kernel_rfl) (by kernel_rfl) (by kernel_rfl) (fun _ _ _ h => h) (Or.inl ⟨by rfl, ?_⟩) (by assumption) ?_
        rotate_left 1
        · intro w' hSw
          go_simp
          all_goals first | with_reducible rfl | (rw [if_neg (by omega)]; done) | (rw [if_pos (by omega)]; done) | (rw [if_neg (by omega)]; with_reducible rfl) | (rw [if_pos (by omega)]; with_reducible rfl)
        try simp only [List.getElem_toArray, List.getElem_cons_zero, List.getElem_cons_succ, Act.put, List.setIfInBounds_toArray, List.set_cons_zero, List.set_cons_succ]
        refine wpAnyH_ready (rs := [11]) (by kernel_rfl) (by simp) ?_
        refine AllReadyH.cons rfl (fun K hK => ?_) AllReadyH.nil
        have r0 := B3_7.out.cell 0
        have f0 := B3_7.out.free 0
        have r1 := B3_7.out.cell 1
        have f1 := B3_7.out.free 1
        have r2 := B3_7.out.cell 2
        have f2 := B3_7.out.free 2
        have r3 := B3_7.out.cell 3
        have f3 := B3_7.out.free 3
        simp only [List.getElem?_cons_zero, List.getElem?_cons_succ] at r0 r1 r2 r3
        obtain ⟨hb, hs⟩ := put4 B3_7.out (.bool false) (.slice (some ⟨g_3, 0, none⟩) (b - a) c_3) (.slice none 0 0) (.slice none 0 0)
        have hx := T3.out.size
        have hS := (T3.out).trans_new (S := (fun _ => False)) hs (fun k hk e => by omega)
        go_simp
        refine hK.out _ _ hS (fun hHeld => ?_)
        clear hK K
        try simp only [List.getElem_toArray, List.getElem_cons_zero, List.getElem_cons_succ, Act.put, List.setIfInBounds_toArray, List.set_cons_zero, List.set_cons_succ]
        refine wpAnyH_named (fun X4 e => ?_)
        clear hHeld
        have T4 := Lib.hid (e ▸ hS)
        have hH4 := T4.out
        have B4_7 := Lib.hid (e ▸ hb)
        rw [← e] at hs
        have R4_16 := Lib.hid (R3_16.out.turn hs (by omega))
        clear T3 hH3 R3_16 B3_7 r0 f0 r1 f1 r2 f2 r3 f3 hS hb hs e
        refine wpAnyH_done (by kernel_rfl) ?_ _
        refine NoPanic.normal ?_
        generalize (if c1 = a then some a1 else some (a1.add a)) = I1
        all_goals go_wp2_with fail
        all_goals go_meet
        all_goals exact ⟨X1.heap.size, g_3, c_3, rfl, B4_7.out, R4_16.out, P3_16.out, by omega, by omega, by omega, T4.out⟩
    · go_simp
      refine hK.out _ _ ((T0.out.alloc _)) (fun hHeld => ?_)
      clear hK K
      try simp only [List.getElem_toArray, List.getElem_cons_zero, List.getElem_cons_succ, Act.put, List.setIfInBounds_toArray, List.set_cons_zero, List.set_cons_succ]
      refine wpAnyH_named (fun X1 e => ?_)
      clear hHeld
      have T1 := Lib.hid (T0.out.al e)
      have hH1 := T1.out
      have hz1 := size_al e
      have hy1 := T0.out.size
      have B1_7 := Lib.hid (Blk.nw (cs := [.bool false, .slice none 0 0, .slice none 0 0, .slice none 0 0]) e)
      clear T0 hH0 e
      refine wpAnyH_ready (rs := [2]) (by kernel_rfl) (by simp) ?_
      refine AllReadyH.cons rfl (fun K hK => ?_) AllReadyH.nil
      go_simp
      refine hK.out _ _ ((T1.out.alloc _)) (fun hHeld => ?_)
      clear hK K
      try simp only [List.getElem_toArray, List.getElem_cons_zero, List.getElem_cons_succ, Act.put, List.setIfInBounds_toArray, List.set_cons_zero, List.set_cons_succ]
      refine wpAnyH_named (fun X2 e => ?_)
      clear hHeld
      have T2 := Lib.hid (T1.out.al e)
      have hH2 := T2.out
      have hz2 := size_al e
      have hy2 := T1.out.size
      have B2_7 := Lib.hid (B1_7.out.al e)
      have hm2_7 := B1_7.out.lt
      have R2_10 := Lib.hid (Ro.empS e)
      clear T1 hH1 B1_7 e
      refine wpAnyH_ready (rs := [8]) (by kernel_rfl) (by simp) ?_
      refine AllReadyH.cons rfl (fun K hK => ?_) AllReadyH.nil
      refine step_app_strsR rfl _ _ rfl (.slice (some ⟨X1.heap.size, 0, none⟩) 0 0) [] (KC) X1.heap.size (if c1 = a then some a1 else some (a1.add a)) (b - a) (c1 - a) (b - a) (HM1.out) (HN1.out) rfl rfl R2_10.out (HK.out.turn T2.out) PK.out HG1.out ?_
      intro g_3 c_3 X3 hg hr hc ht
      have hw : W.heap.size ≤ X1.heap.size := by omega
      have T3 := Lib.hid (T2.out.trans_new (S := fun _ => False) ht (fun k hk e => by omega))
      have hH3 := T3.out
      have hz3 := ht.size
      have hp := R2_10.out.lt
      have hy3 := T2.out.size
      have hv3 : W.heap.size ≤ g_3 := by omega
      have hm3_7 := B2_7.out.lt
      have B3_7 := Lib.hid (B2_7.out.turn ht (by omega))
      have hr3_7 : ¬ X0.heap.size = g_3 := by omega
      have R3_16 := Lib.hid hr
      have P3_16 := Lib.hid hc
      clear T2 hH2 R2_10 B2_7 hr hc ht hg hp hw
      refine hK.out _ _ hH3 (fun hHeld => ?_)
      clear hK K hHeld
      try simp only [List.getElem_toArray, List.getElem_cons_zero, List.getElem_cons_succ, Act.put, List.setIfInBounds_toArray, List.set_cons_zero, List.set_cons_succ]
      refine wpAnyH_take (i := 9) (v := ?_) rfl (by kernel_rfl) (by kernel_rfl) (by kernel_rfl) (fun _ _ _ h => h) (Or.inl ⟨by rfl, ?_⟩) (by assumption) ?_
      rotate_left 1
      · intro w' hSw
        go_simp
        all_goals first | with_reducible rfl | (rw [if_neg (by omega)]; done) | (rw [if_pos (by omega)]; done) | (rw [if_neg (by omega)]; with_reducible rfl) | (rw [if_pos (by omega)]; with_reducible rfl)
      try simp only [List.getElem_toArray, List.getElem_cons_zero, List.getElem_cons_succ, Act.put, List.setIfInBounds_toArray, List.set_cons_zero, List.set_cons_succ]
      refine wpAnyH_ready (rs := [11]) (by kernel_rfl) (by simp) ?_
      refine AllReadyH.cons rfl (fun K hK => ?_) AllReadyH.nil
      have r0 := B3_7.out.cell 0
      have f0 := B3_7.out.free 0
      have r1 := B3_7.out.cell 1
      have f1 := B3_7.out.free 1
      have r2 := B3_7.out.cell 2
      have f2 := B3_7.out.free 2
      have r3 := B3_7.out.cell 3
      have f3 := B3_7.out.free 3
      simp only [List.getElem?_cons_zero, List.getElem?_cons_succ] at r0 r1 r2 r3
      obtain ⟨hb, hs⟩ := put4 B3_7.out (.bool false) (.slice (some ⟨g_3, 0, none⟩) (b - a) c_3) (.slice none 0 0) (.slice none 0 0)
      have hx := T3.out.size
      have hS := (T3.out).trans_new (S := (fun _ => False)) hs (fun k hk e => by omega)
      go_simp
      refine hK.out _ _ hS (fun hHeld => ?_)
      clear hK K
      try simp only [List.getElem_toArray, List.getElem_cons_zero, List.getElem_cons_succ, Act.put, List.setIfInBounds_toArray, List.set_cons_zero, List.set_cons_succ]
      refine wpAnyH_named (fun X4 e => ?_)
      clear hHeld
      have T4 := Lib.hid (e ▸ hS)
      have hH4 := T4.out
      have B4_7 := Lib.hid (e ▸ hb)
      rw [← e] at hs
      have R4_16 := Lib.hid (R3_16.out.turn hs (by omega))
      clear T3 hH3 R3_16 B3_7 r0 f0 r1 f1 r2 f2 r3 f3 hS hb hs e
      refine wpAnyH_done (by kernel_rfl) ?_ _
      refine NoPanic.normal ?_
      generalize (if c1 = a then some a1 else some (a1.add a)) = I1
      all_goals go_wp2_with fail
      all_goals go_meet
      all_goals exact ⟨X0.heap.size, g_3, c_3, rfl, B4_7.out, R4_16.out, P3_16.out, by omega, by omega, by omega, T4.out⟩
  case rest =>
    obtain ⟨Y, gA, cA, rfl, hBY, hRA, hpA, hWY, hWg, hYg, hTX⟩ := hcut
    rw [List.nil_append] at hRA
    have PA := Lib.hid hpA
    have x0 : wc.cell? ⟨w.heap.size, 0, none⟩ = some (.bool false) := (B0.out.turn hTX (fun h => h)).cell 0
    have hca := HCA.out
    have HV2 := HV.out
    have PV2 := PV.out
    rw [if_neg hca] at HV2 PV2
    have HV3 := Lib.hid HV2
    have PV3 := Lib.hid PV2
    clear HV2 PV2
    have BY := Lib.hid hBY
    have RA := Lib.hid hRA
    have RR := Lib.hid (R0.out.turn hTX (fun h => h))
    have TX := Lib.hid hTX
    have x2 : wc.cell? ⟨w.heap.size, 3, none⟩ = some (.slice (some a3) nd c3) := (B0.out.turn hTX (fun h => h)).cell 3
    have hxl := hTX.size
    have hYl := hBY.lt
    have hgl := hRA.lt
    have hwl : w.heap.size < wc.heap.size := by omega
    clear hBY hRA hTX hpA
    go_wp2_with (at_builtin; refine wpList_app_intsR rfl _ _ rfl (.slice (some ⟨wc.heap.size, 0, none⟩) 0 0) [] VC wc.heap.size (some (a3.add a)) (q - a) (c3 - a) (q - a) HM2.out HN2.out rfl rfl (Ro.empty wc _) (HV3.out.turn (TX.out.alloc _)) PV3.out HG2.out ?_; intro gB cB X hg hr hc ht; have hz := ht.size; rw [World.size_alloc] at hz hg; have hB7 := Lib.hid ((BY.out.alloc (.cells #[] 3)).turn ht (by omega)); have hR6 := Lib.hid ((RR.out.alloc (.cells #[] 3)).turn ht (by omega)); have hRA := Lib.hid ((RA.out.alloc (.cells #[] 3)).turn ht (by omega)); have hRB := Lib.hid hr; have PB := Lib.hid hc; have TX2 := Lib.hid ((TX.out.alloc (.cells #[] 3)).trans_new ht (fun k hk e => by omega)); have hgB : W.heap.size ≤ gB := (by omega); have hYB : ¬ Y = gB := (by omega); have hAB : ¬ gA = gB := (by omega); have s0 := hB7.out.cell 0; have s1 := hB7.out.cell 1; have s2 := hB7.out.cell 2; have s3 := hB7.out.cell 3; have h0 := hB7.out.free 0; have h1 := hB7.out.free 1; have h2 := hB7.out.free 2; have h3 := hB7.out.free 3; have BP := Lib.hid (hB7.out.put 3 (.slice (some ⟨gB, 0, none⟩) (q - a) cB)); have TP := Lib.hid ((Turn.refl (fun k => k = Y) X).setCell (p := ⟨Y, 3, none⟩) (.inl rfl) (.slice (some ⟨gB, 0, none⟩) (q - a) cB)); have RP := Lib.hid (hR6.out.turn TP.out (by omega)); have r0 := RP.out.cell 0; have r1 := RP.out.cell 1; have r2 := RP.out.cell 2; have r3 := RP.out.cell 3; have f0 := RP.out.free 0; have f1 := RP.out.free 1; have f2 := RP.out.free 2; have f3 := RP.out.free 3; have u0 := BP.out.cell 0; have u1 := BP.out.cell 1; have u2 := BP.out.cell 2; have u3 := BP.out.cell 3; simp only [List.getElem?_cons_zero, List.getElem?_cons_succ, List.set_cons_zero, List.set_cons_succ] at s0 s1 s2 s3 r0 r1 r2 r3 u0 u1 u2 u3; clear hr hc ht hg)
    obtain ⟨hf, htf⟩ := put4 RP.out (.bool false) (.slice (some ⟨gA, 0, none⟩) (b - a) cA) (.slice none 0 0) (.slice (some ⟨gB, 0, none⟩) (q - a) cB)
    have e0 := hf.cell 0
    have e1 := hf.cell 1
    have e2 := hf.cell 2
    have e3 := hf.cell 3
    simp only [List.getElem?_cons_zero, List.getElem?_cons_succ] at e0 e1 e2 e3
    have htt := ((T0.out.trans TX2.out).trans_new TP.out (fun k hk e => by omega)).trans_new htf (fun k hk e => by omega)
    have hs1 := fun X1 (hX : Turn (fun k => k < w.heap.size) (((((X.setCell ⟨Y, 3, none⟩ (.slice (some ⟨gB, 0, none⟩) (q - a) cB)).setCell ⟨w.heap.size + 1, 0, none⟩ (.bool false)).setCell ⟨w.heap.size + 1, 1, none⟩ (.slice (some ⟨gA, 0, none⟩) (b - a) cA)).setCell ⟨w.heap.size + 1, 2, none⟩ (.slice none 0 0)).setCell ⟨w.heap.size + 1, 3, none⟩ (.slice (some ⟨gB, 0, none⟩) (q - a) cB)) X1) => (((hRA.out.turn TP.out (by omega)).turn htf (by omega)).turn hX (by omega)).sr
    have hs2 := fun X1 (hX : Turn (fun k => k < w.heap.size) (((((X.setCell ⟨Y, 3, none⟩ (.slice (some ⟨gB, 0, none⟩) (q - a) cB)).setCell ⟨w.heap.size + 1, 0, none⟩ (.bool false)).setCell ⟨w.heap.size + 1, 1, none⟩ (.slice (some ⟨gA, 0, none⟩) (b - a) cA)).setCell ⟨w.heap.size + 1, 2, none⟩ (.slice none 0 0)).setCell ⟨w.heap.size + 1, 3, none⟩ (.slice (some ⟨gB, 0, none⟩) (q - a) cB)) X1) => (((hRB.out.turn TP.out (by omega)).turn htf (by omega)).turn hX (by omega)).nr
    clear hf htf r0 r1 r2 r3 f0 f1 f2 f3 x0 x2 s0 s1 s2 s3 u0 u1 u2 u3 h0 h1 h2 h3 BP RP
    generalize (((((X.setCell ⟨Y, 3, none⟩ (.slice (some ⟨gB, 0, none⟩) (q - a) cB)).setCell ⟨w.heap.size + 1, 0, none⟩ (.bool false)).setCell ⟨w.heap.size + 1, 1, none⟩ (.slice (some ⟨gA, 0, none⟩) (b - a) cA)).setCell ⟨w.heap.size + 1, 2, none⟩ (.slice none 0 0)).setCell ⟨w.heap.size + 1, 3, none⟩ (.slice (some ⟨gB, 0, none⟩) (q - a) cB)) = WF at *
    exact bodyPost_ret (v := .agg #[.bool false, .slice (some ⟨gA, 0, none⟩) (b - a) cA, .slice none 0 0, .slice (some ⟨gB, 0, none⟩) (q - a) cB]) (by simp [results, Try.results45, go_sem, e0, e1, e2, e3]) rfl ⟨_, rfl, ⟨some ⟨gA, 0, none⟩, cA, none, 0, some ⟨gB, 0, none⟩, cB, by rw [HD.out]; simp only [nv8]; rw [HLK.out, HLV.out]; rfl, by rw [HD.out]; exact fun X1 hX => ⟨hs1 X1 hX, sr_nil _ _, hs2 X1 hX⟩, by rw [HD.out]; show Cp _ (List.length _) _ ∧ Cp _ (List.length _) _ ∧ Cp _ (List.length _) _; rw [HLK.out, HLV.out]; exact ⟨PA.out, ⟨Nat.le_refl _, by unfold maxLen; decide, fun _ => rfl⟩, PB.out⟩⟩, htt⟩
end Go.Proofs.Ytpnnbfojdccfhaa
