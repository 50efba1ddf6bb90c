/- Layer 11: the program's Read. -/
import Derived.Test.YtcjoinahelmmpaaSuE
namespace Go.Proofs.Ytcjoinahelmmpaa
open Go.RowKit
set_option linter.unusedVariables false
set_option linter.unusedSimpArgs false
set_option maxRecDepth 100000

theorem fill_all : ∀ (l : List Value) (k : Nat) (Z : Array Value), k + l.length ≤ Z.size →
    ((l.zipIdx k).foldl (fun cs (p : Value × Nat) => cs.setIfInBounds (0 + p.2) p.1) Z).toList = Z.toList.take k ++ l ++ Z.toList.drop (k + l.length)
  | [], k, Z, h => by simp
  | c :: l, k, Z, h => by
    rw [List.zipIdx_cons, List.foldl_cons, fill_all l (k + 1) _ (by simp at h ⊢; omega)]
    simp only [List.length_cons] at h ⊢
    simp only [Nat.zero_add, Array.toList_setIfInBounds]
    rw [List.take_succ_eq_append_getElem (by simp; omega), List.getElem_set_self, List.take_set_of_le (by omega), List.drop_set_of_lt (by omega)]
    simp [show k + 1 + l.length = k + (l.length + 1) from by omega]
/-- A struct's cells, and its fields' places. -/
def built0 (P : Program) (t : TypeId) : Option (Array Value × List (Nat × Nat)) :=
  match P.info? t, P.underlying t with
  | some it, some (.struct fields) =>
    match it.zero, fields.toList.mapM (fun f => (P.info? f.type).map fun i => (f.offset, i.size)) with
    | some z, some places => some (z.cells, places)
    | _, _ => none
  | _, _ => none
theorem built_of (P : Program) (t : TypeId) (z : Array Value) (places : List (Nat × Nat)) (h : built0 P t = some (z, places)) (parts : List (Nat × Value)) : P.built t parts = Instr.fill (places.toArray[·]?) z parts := by
  unfold built0 at h
  unfold Program.built
  split at h
  · rename_i h1 h2
    rw [h1, h2]
    simp only
    split at h
    · rename_i h3 h4
      rw [h3, h4]
      injection h with h
      injection h with h5 h6
      subst h5 h6
      rfl
    · cases h
  · cases h
theorem built0_view : built0 Try.prog 87 = some ((bv zeros).toArray, [(0, 128)]) := by kernel_rfl
theorem built_view (X : Array Value) (h : X.size = 128) : Try.prog.built 87 [(0, Value.agg X)] = some X := by
  rw [built_of _ _ _ _ built0_view]
  have hz : (bv zeros).toArray.size = 128 := by simp [len_bv, zeros]
  have h0 : ([(0, 128)] : List (Nat × Nat)).toArray[0]? = some (0, 128) := rfl
  unfold Instr.fill
  simp only [h0]
  have hc : (Value.agg X).cells = X := rfl
  rw [hc, if_neg (by simp [h, hz])]
  unfold Instr.fill
  congr 1
  apply Array.ext'
  have := fill_all X.toList 0 (bv zeros).toArray (by simp [h, hz, len_bv, zeros])
  rw [← Array.foldl_toList, Array.toList_zipIdx]
  rw [show (fun (cs : Array Value) (x : Value × Nat) => match x with | (c, j) => cs.setIfInBounds (0 + j) c) = (fun cs (p : Value × Nat) => cs.setIfInBounds (0 + p.2) p.1) from rfl]
  rw [this]
  simp [len_bv, zeros, h]
theorem wpList_build_view {ops : Array Oper} {rest : List Oper} {o : Oper} {a : Act} {w : World} {Q : Exit → Act → World → Prop} (hg : o.guard = none) (x : Operand) (ho : o.op = .build 87 #[(0, x)]) (X : Array Value) (hx : a.eval x = .agg X) (hX : X.size = 128)
    (h : wpList Try.prog ops Q rest (a.put o.dst (.agg X)) w) : wpList Try.prog ops Q (o :: rest) a w := by
  refine wpList_plain hg fun K hK => ?_
  have hb := run_build (P := Try.prog) w 87 #[(0, Value.agg X)] _ (built_view X hX)
  unfold Oper.wp
  simp [execOp, ho, hx, hb, Result.andThen]
  exact hK _ _ h
theorem wpList_load_mid_on {P : Program} {ops : Array Oper} {rest : List Oper} {op : Oper} {a : Act} {w : World} {Q : Exit → Act → World → Prop} (hw : Region.wanted op (yielded ops a.tmps) = true) (ty : TypeId) (x : Operand) (ho : op.op = .load ty x)
    (b o : Nat) (hx : a.eval x = .pointer (some ⟨b, o, none⟩)) (cs : List Value) (d : TypeDesc) (hc : w.rangeAt b o cs)
    (hu : P.underlying ty = some d) (hd : d.isRow = true) (hi : (P.info? ty).map (·.size) = some cs.length)
    (h : wpList P ops Q rest (a.put op.dst (.agg cs.toArray)) w) : wpList P ops Q (op :: rest) a w :=
  wpList_step fun K hK => by
    rw [if_pos hw]
    exact wp_load_mid ty x ho b o hx cs d hc hu hd hi (hK _ _ h)
theorem wpList_store_newk {P : Program} {ops : Array Oper} {rest : List Oper} {op : Oper} {a : Act} {w : World} {Q : Exit → Act → World → Prop} (hgd : op.guard = none) (t : TypeId) (x y : Operand) (ho : op.op = .store t x y)
    (c c' : Array Value) (k : Nat) (hk : w.heap.size = k) (hx : a.eval x = .pointer (some ⟨k, 0, none⟩)) (hy : a.eval y = .agg c') (hi : (P.info? t).map (·.size) = some c'.size) (hs : c.size = c'.size) (h1 : c'.all (·.oneCell') = true)
    (h : wpList P ops Q rest (a.put op.dst undef) (w.alloc (.cells c' t))) : wpList P ops Q (op :: rest) a (w.alloc (.cells c t)) := by
  subst hk
  exact wpList_store_new hgd t x y ho c c' hx hy hi hs h1 h
theorem readU_short (A : Option Addr) (n cap : Nat) (h : n ≠ 128) (w : World) :
    Calls Try.prog 15 #[.slice A n cap] w fun e w' => e = .returned (rdU none) ∧ Turn (fun _ => False) w w' := by
  have hq : ((n : Int) == 128) = false := by simp; omega
  have hq2 : ((n : Int) != 128) = true := by simp; omega
  clear h
  go_enter Try.func15, Try.ntmps15
  go_wp2
  exact bodyPost_ret (v := .tuple #[.agg #[.int .i64 0, .int .i64 0, .int .i64 0, .int .i64 0, .int .i64 0, .int .i64 0], .int .i64 4]) (by simp [results, Try.results15, go_sem]) rfl ⟨rfl, by
    repeat (first | exact (Turn.refl _ _) | refine Turn.setCell ?_ (by simp) _ | refine Turn.alloc ?_ _)⟩
set_option maxHeartbeats 4000000 in
theorem readU_128 (v : Value) (l : List UInt8) (w : World) (hv : Sl w w.heap.size v l) (hl : l.length = 128) :
    Calls Try.prog 15 #[v] w fun e w' => e = .returned (rdU (readU l)) ∧ Turn (fun _ => False) w w' := by
  obtain ⟨A, cap, rfl, hr, hm, hnil, hle⟩ := hv
  obtain ⟨ad, rfl, hsp, hbl, hcc⟩ := hr (by omega)
  obtain ⟨b, o, sp⟩ := ad
  simp only at hsp hbl
  subst hsp
  have HR : Hid (w.rangeAt b o (bv l)) := Lib.hid (fun j u hu => by
    rw [bv_at] at hu
    cases hj : l[j]? with
    | none => rw [hj] at hu; cases hu
    | some c =>
      rw [hj] at hu
      cases hu
      have := hcc j c hj
      rw [Addr.add_mid] at this
      exact this)
  have HRA := Lib.hid (World.rangeAt_alloc HR.out (.cells #[.int .i64 0, .int .i64 0, .int .i64 0, .int .i64 0, .int .i64 0, .int .i64 0] 23))
  have HI : Hid ((Try.prog.info? 85).map (·.size) = some (bv l).length) := Lib.hid (by rw [len_bv, hl]; kernel_rfl)
  have HIV : Hid ((Try.prog.info? 87).map (·.size) = some (bv l).length) := Lib.hid (by rw [len_bv, hl]; kernel_rfl)
  have HIA : Hid ((Try.prog.info? 87).map (·.size) = some (bv l).toArray.size) := Lib.hid (by have := HIV.out; simpa using this)
  have HX : Hid ((bv l).toArray.size = 128) := Lib.hid (by simp [len_bv, hl])
  have H1 := Lib.hid (all_oneCell_toArray (one_bv l))
  obtain ⟨hz1, hz2⟩ := zero_of_info (P := Try.prog) (t := 87) (v := .agg (bv zeros).toArray) (n := 128) (by kernel_rfl)
  have HSZ : Hid ((bv zeros).toArray.size = (bv l).toArray.size) := Lib.hid (by simp [len_bv, hl, zeros])
  have ka := run_arrayAt (P := Try.prog) (w.alloc (.cells #[.int .i64 0, .int .i64 0, .int .i64 0, .int .i64 0, .int .i64 0, .int .i64 0] 23)) 85 5 128 (some ⟨b, o, none⟩) 128 cap Try.underlying85 (Nat.le_refl _)
  have MK := Lib.hid (marked_any l hl)
  have WH := Lib.hid (whole_any l hl)
  have BL := Lib.hid (blank_any l hl)
  have SU := Lib.hid (superU_any l hl)
  have HN := Lib.hid (testsU_no l hl)
  have HY := Lib.hid (testsU_yes l hl)
  have HBK := fun w : World => Blk.new w 87 (bv l)
  have CK := Lib.hid (checkU (parseU l))
  rw [hl]
  have hq : ((128 : Int) != 128) = false := by decide
  obtain ⟨Z, hZ⟩ : ∃ Z, (bv zeros).toArray = Z := ⟨_, rfl⟩
  obtain ⟨X, hX⟩ : ∃ X, bv l = X := ⟨_, rfl⟩
  rw [hZ] at hz1 HSZ
  rw [hX] at HR HRA HI HIV HIA HX H1 HSZ MK WH BL SU
  have HBK := Lib.hid (fun w : World => (hX ▸ HBK w : Blk (w.alloc (.cells X.toArray 87)) w.heap.size 87 X))
  obtain ⟨s, hs⟩ : ∃ s, parseU l = s := ⟨_, rfl⟩
  rw [hs] at SU HN HY CK
  clear hl hr hnil hcc hZ hX hz2 hs
  obtain ⟨b1, hb1⟩ : ∃ b, mkU l = b := ⟨_, rfl⟩
  obtain ⟨b2, hb2⟩ : ∃ b, whU l = b := ⟨_, rfl⟩
  obtain ⟨b3, hb3⟩ : ∃ b, blU l = b := ⟨_, rfl⟩
  obtain ⟨b4, hb4⟩ : ∃ b, rU s = b := ⟨_, rfl⟩
  obtain ⟨R, hR⟩ : ∃ R, readU l = R := ⟨_, rfl⟩
  rw [hb1] at MK HN HY
  rw [hb2] at WH HN HY
  rw [hb3] at BL HN HY
  rw [hb4] at CK HN HY
  rw [hR] at HN HY ⊢
  clear hb1 hb2 hb3 hb4 hR
  obtain ⟨g, r, t, e, lm, m⟩ := s
  unfold uv ubox at *
  simp only at SU CK
  have key : (b1 = false ∧ R = none) ∨ (b1 = true ∧ b2 = false ∧ R = none) ∨ (b1 = true ∧ b2 = true ∧ b3 = false ∧ R = none) ∨ (b1 = true ∧ b2 = true ∧ b3 = true ∧ b4 = false ∧ R = none) ∨ (b1 = true ∧ b2 = true ∧ b3 = true ∧ b4 = true ∧ R = some ⟨g, r, t, e, lm, m⟩) := by
    cases b1
    · exact .inl ⟨rfl, HN.out (.inl rfl)⟩
    cases b2
    · exact .inr (.inl ⟨rfl, rfl, HN.out (.inr (.inl rfl))⟩)
    cases b3
    · exact .inr (.inr (.inl ⟨rfl, rfl, rfl, HN.out (.inr (.inr (.inl rfl)))⟩))
    cases b4
    · exact .inr (.inr (.inr (.inl ⟨rfl, rfl, rfl, rfl, HN.out (.inr (.inr (.inr rfl)))⟩)))
    · exact .inr (.inr (.inr (.inr ⟨rfl, rfl, rfl, rfl, HY.out rfl rfl rfl rfl⟩)))
  clear HN HY
  go_enter Try.func15, Try.ntmps15
  go_upto_region 4 with (first
    | (refine wpList_load_mid rfl 85 _ rfl b o rfl X _ HRA.out Try.underlying85 rfl HI.out ?_)
    | (refine wpList_build_view rfl _ rfl X.toArray rfl HX.out ?_)
    | (refine wpList_store_newk rfl 87 _ _ rfl Z X.toArray (w.heap.size + 1) (by simp) rfl rfl HIA.out HSZ.out H1.out ?_))
  have K0 := Lib.hid ((Blk.new w 23 [.int .i64 0, .int .i64 0, .int .i64 0, .int .i64 0, .int .i64 0, .int .i64 0]).alloc (.cells X.toArray 87))
  have V0 := Lib.hid (Blk.new_ (w.alloc (.cells #[.int .i64 0, .int .i64 0, .int .i64 0, .int .i64 0, .int .i64 0, .int .i64 0] 23)) 87 X (k := w.heap.size + 1) (by simp))
  have T0 := Lib.hid (((Turn.refl (fun _ => False) w).alloc (.cells #[.int .i64 0, .int .i64 0, .int .i64 0, .int .i64 0, .int .i64 0, .int .i64 0] 23)).alloc (.cells X.toArray 87))
  have RV0 := Lib.hid (V0.out.range 0 X (fun j v hv => by rw [Nat.zero_add]; exact hv))
  clear HR HRA HI ka hz1
  go_wp2_with (refine wpList_load_mid rfl 87 _ rfl (w.heap.size + 1) 0 rfl X _ RV0.out Try.underlying87 rfl HIV.out ?_)
  refine (SU.out _).mono ?_
  rintro e1 w2 ⟨rfl, ht⟩
  have K2 := Lib.hid (K0.out.turn ht (fun h => h))
  have V2 := Lib.hid (V0.out.turn ht (fun h => h))
  have T2 := Lib.hid (T0.out.trans ht)
  have hz2 : w.heap.size + 1 < w2.heap.size := by have := V2.out.lt; omega
  clear ht K0 V0 T0 RV0
  go_upto_region 5 with fail
  have K3 := Lib.hid (K2.out.alloc (.cells #[.int .i64 g, .int .i64 r, .int .i64 t, .int .i64 e, .int .i64 lm, .int .i64 m] 23))
  have V3 := Lib.hid (V2.out.alloc (.cells #[.int .i64 g, .int .i64 r, .int .i64 t, .int .i64 e, .int .i64 lm, .int .i64 m] 23))
  have S3 := Lib.hid (Blk.new w2 23 [.int .i64 g, .int .i64 r, .int .i64 t, .int .i64 e, .int .i64 lm, .int .i64 m])
  have T3 := Lib.hid (T2.out.alloc (.cells #[.int .i64 g, .int .i64 r, .int .i64 t, .int .i64 e, .int .i64 lm, .int .i64 m] 23))
  have RV3 := Lib.hid (V3.out.range 0 X (fun j v hv => by rw [Nat.zero_add]; exact hv))
  clear K2 V2 T2
  rcases key with ⟨rfl, rfl⟩ | ⟨rfl, rfl, rfl⟩ | ⟨rfl, rfl, rfl, rfl⟩ | ⟨rfl, rfl, rfl, rfl, rfl⟩ | ⟨rfl, rfl, rfl, rfl, rfl⟩
  · go_wp2_with (first
      | (refine wpList_load_mid rfl 87 _ rfl (w.heap.size + 1) 0 rfl X _ RV3.out Try.underlying87 rfl HIV.out ?_)
      | (go_at_call 39; (with_reducible refine (MK.out _).mono ?_); rintro e4 w4 ⟨rfl, ht⟩; have K4 := Lib.hid (K3.out.turn ht (fun h => h)); have V4 := Lib.hid (V3.out.turn ht (fun h => h)); have S4 := Lib.hid (S3.out.turn ht (fun h => h)); have T4 := Lib.hid (T3.out.trans ht); have RV4 := Lib.hid (V4.out.range 0 X (fun j v hv => by rw [Nat.zero_add]; exact hv)); clear ht; obtain ⟨⟨q0, q1, q2, q3, q4, q5⟩, k0, k1_, k2, k3, k4, k5⟩ := blk6 K4.out))
    rw [put6_eq]
    have hf := K4.out.put6 (a' := .int .i64 0) (b' := .int .i64 0) (c' := .int .i64 0) (d' := .int .i64 0) (e' := .int .i64 0) (f' := .int .i64 0)
    have hT := T4.out.put6 (g := w.heap.size) (.inr (Nat.le_refl _)) (.int .i64 0) (.int .i64 0) (.int .i64 0) (.int .i64 0) (.int .i64 0) (.int .i64 0)
    generalize put6 w4 w.heap.size (.int .i64 0) (.int .i64 0) (.int .i64 0) (.int .i64 0) (.int .i64 0) (.int .i64 0) = WF at *
    clear q0 q1 q2 q3 q4 q5 k0 k1_ k2 k3 k4 k5
    obtain ⟨e0, e1, e2, e3, e4, e5⟩ := (blk6 hf).1
    exact bodyPost_ret (v := .tuple #[.agg #[.int .i64 0, .int .i64 0, .int .i64 0, .int .i64 0, .int .i64 0, .int .i64 0], .int .i64 4]) (by simp [results, Try.results15, go_sem, e0, e1, e2, e3, e4, e5]) rfl ⟨rfl, hT⟩
  · go_wp2_with (first
      | (refine wpList_load_mid rfl 87 _ rfl (w.heap.size + 1) 0 rfl X _ RV3.out Try.underlying87 rfl HIV.out ?_)
      | (go_at_call 39; (with_reducible refine (MK.out _).mono ?_); rintro e4 w4 ⟨rfl, ht⟩; have K4 := Lib.hid (K3.out.turn ht (fun h => h)); have V4 := Lib.hid (V3.out.turn ht (fun h => h)); have S4 := Lib.hid (S3.out.turn ht (fun h => h)); have T4 := Lib.hid (T3.out.trans ht); have RV4 := Lib.hid (V4.out.range 0 X (fun j v hv => by rw [Nat.zero_add]; exact hv)); clear ht)
      | (refine wpList_load_mid_on (by first | rfl | go_simp) 87 _ rfl (w.heap.size + 1) 0 rfl X _ RV4.out Try.underlying87 rfl HIV.out ?_)
      | (go_at_call 40; (with_reducible refine (WH.out _).mono ?_); rintro e5 w5 ⟨rfl, ht⟩; have K5 := Lib.hid (K4.out.turn ht (fun h => h)); have V5 := Lib.hid (V4.out.turn ht (fun h => h)); have S5 := Lib.hid (S4.out.turn ht (fun h => h)); have T5 := Lib.hid (T4.out.trans ht); have RV5 := Lib.hid (V5.out.range 0 X (fun j v hv => by rw [Nat.zero_add]; exact hv)); clear ht; obtain ⟨⟨q0, q1, q2, q3, q4, q5⟩, k0, k1_, k2, k3, k4, k5⟩ := blk6 K5.out))
    rw [put6_eq]
    have hf := K5.out.put6 (a' := .int .i64 0) (b' := .int .i64 0) (c' := .int .i64 0) (d' := .int .i64 0) (e' := .int .i64 0) (f' := .int .i64 0)
    have hT := T5.out.put6 (g := w.heap.size) (.inr (Nat.le_refl _)) (.int .i64 0) (.int .i64 0) (.int .i64 0) (.int .i64 0) (.int .i64 0) (.int .i64 0)
    generalize put6 w5 w.heap.size (.int .i64 0) (.int .i64 0) (.int .i64 0) (.int .i64 0) (.int .i64 0) (.int .i64 0) = WF at *
    clear q0 q1 q2 q3 q4 q5 k0 k1_ k2 k3 k4 k5
    obtain ⟨e0, e1, e2, e3, e4, e5⟩ := (blk6 hf).1
    exact bodyPost_ret (v := .tuple #[.agg #[.int .i64 0, .int .i64 0, .int .i64 0, .int .i64 0, .int .i64 0, .int .i64 0], .int .i64 4]) (by simp [results, Try.results15, go_sem, e0, e1, e2, e3, e4, e5]) rfl ⟨rfl, hT⟩
  · go_wp2_with (first
      | (refine wpList_load_mid rfl 87 _ rfl (w.heap.size + 1) 0 rfl X _ RV3.out Try.underlying87 rfl HIV.out ?_)
      | (go_at_call 39; (with_reducible refine (MK.out _).mono ?_); rintro e4 w4 ⟨rfl, ht⟩; have K4 := Lib.hid (K3.out.turn ht (fun h => h)); have V4 := Lib.hid (V3.out.turn ht (fun h => h)); have S4 := Lib.hid (S3.out.turn ht (fun h => h)); have T4 := Lib.hid (T3.out.trans ht); have RV4 := Lib.hid (V4.out.range 0 X (fun j v hv => by rw [Nat.zero_add]; exact hv)); clear ht)
      | (refine wpList_load_mid_on (by first | rfl | go_simp) 87 _ rfl (w.heap.size + 1) 0 rfl X _ RV4.out Try.underlying87 rfl HIV.out ?_)
      | (go_at_call 40; (with_reducible refine (WH.out _).mono ?_); rintro e5 w5 ⟨rfl, ht⟩; have K5 := Lib.hid (K4.out.turn ht (fun h => h)); have V5 := Lib.hid (V4.out.turn ht (fun h => h)); have S5 := Lib.hid (S4.out.turn ht (fun h => h)); have T5 := Lib.hid (T4.out.trans ht); have RV5 := Lib.hid (V5.out.range 0 X (fun j v hv => by rw [Nat.zero_add]; exact hv)); clear ht)
      | (refine wpList_load_mid_on (by first | rfl | go_simp) 87 _ rfl (w.heap.size + 1) 0 rfl X _ RV5.out Try.underlying87 rfl HIV.out ?_)
      | (go_at_call 41; (with_reducible refine (BL.out _).mono ?_); rintro e6 w6 ⟨rfl, ht⟩; have K6 := Lib.hid (K5.out.turn ht (fun h => h)); have V6 := Lib.hid (V5.out.turn ht (fun h => h)); have S6 := Lib.hid (S5.out.turn ht (fun h => h)); have T6 := Lib.hid (T5.out.trans ht); have RV6 := Lib.hid (V6.out.range 0 X (fun j v hv => by rw [Nat.zero_add]; exact hv)); clear ht; obtain ⟨p0, p1, p2, p3, p4, p5⟩ := (blk6 S6.out).1; obtain ⟨⟨q0, q1, q2, q3, q4, q5⟩, k0, k1_, k2, k3, k4, k5⟩ := blk6 K6.out))
    rw [put6_eq]
    have hf := K6.out.put6 (a' := .int .i64 0) (b' := .int .i64 0) (c' := .int .i64 0) (d' := .int .i64 0) (e' := .int .i64 0) (f' := .int .i64 0)
    have hT := T6.out.put6 (g := w.heap.size) (.inr (Nat.le_refl _)) (.int .i64 0) (.int .i64 0) (.int .i64 0) (.int .i64 0) (.int .i64 0) (.int .i64 0)
    generalize put6 w6 w.heap.size (.int .i64 0) (.int .i64 0) (.int .i64 0) (.int .i64 0) (.int .i64 0) (.int .i64 0) = WF at *
    clear q0 q1 q2 q3 q4 q5 k0 k1_ k2 k3 k4 k5
    obtain ⟨e0, e1, e2, e3, e4, e5⟩ := (blk6 hf).1
    exact bodyPost_ret (v := .tuple #[.agg #[.int .i64 0, .int .i64 0, .int .i64 0, .int .i64 0, .int .i64 0, .int .i64 0], .int .i64 4]) (by simp [results, Try.results15, go_sem, e0, e1, e2, e3, e4, e5]) rfl ⟨rfl, hT⟩
  · go_wp2_with (first
      | (refine wpList_load_mid rfl 87 _ rfl (w.heap.size + 1) 0 rfl X _ RV3.out Try.underlying87 rfl HIV.out ?_)
      | (go_at_call 39; (with_reducible refine (MK.out _).mono ?_); rintro e4 w4 ⟨rfl, ht⟩; have K4 := Lib.hid (K3.out.turn ht (fun h => h)); have V4 := Lib.hid (V3.out.turn ht (fun h => h)); have S4 := Lib.hid (S3.out.turn ht (fun h => h)); have T4 := Lib.hid (T3.out.trans ht); have RV4 := Lib.hid (V4.out.range 0 X (fun j v hv => by rw [Nat.zero_add]; exact hv)); clear ht)
      | (refine wpList_load_mid_on (by first | rfl | go_simp) 87 _ rfl (w.heap.size + 1) 0 rfl X _ RV4.out Try.underlying87 rfl HIV.out ?_)
      | (go_at_call 40; (with_reducible refine (WH.out _).mono ?_); rintro e5 w5 ⟨rfl, ht⟩; have K5 := Lib.hid (K4.out.turn ht (fun h => h)); have V5 := Lib.hid (V4.out.turn ht (fun h => h)); have S5 := Lib.hid (S4.out.turn ht (fun h => h)); have T5 := Lib.hid (T4.out.trans ht); have RV5 := Lib.hid (V5.out.range 0 X (fun j v hv => by rw [Nat.zero_add]; exact hv)); clear ht)
      | (refine wpList_load_mid_on (by first | rfl | go_simp) 87 _ rfl (w.heap.size + 1) 0 rfl X _ RV5.out Try.underlying87 rfl HIV.out ?_)
      | (go_at_call 41; (with_reducible refine (BL.out _).mono ?_); rintro e6 w6 ⟨rfl, ht⟩; have K6 := Lib.hid (K5.out.turn ht (fun h => h)); have V6 := Lib.hid (V5.out.turn ht (fun h => h)); have S6 := Lib.hid (S5.out.turn ht (fun h => h)); have T6 := Lib.hid (T5.out.trans ht); have RV6 := Lib.hid (V6.out.range 0 X (fun j v hv => by rw [Nat.zero_add]; exact hv)); clear ht; obtain ⟨p0, p1, p2, p3, p4, p5⟩ := (blk6 S6.out).1)
      | (go_at_call 12; (with_reducible refine (CK.out _).mono ?_); rintro e7 w7 ⟨rfl, rfl⟩; have ht := (Turn.refl (fun _ => False) w6).alloc (.cells #[.int .i64 g, .int .i64 r, .int .i64 t, .int .i64 e, .int .i64 lm, .int .i64 m] 23); have K7 := Lib.hid (K6.out.turn ht (fun h => h)); have V7 := Lib.hid (V6.out.turn ht (fun h => h)); have S7 := Lib.hid (S6.out.turn ht (fun h => h)); have T7 := Lib.hid (T6.out.trans ht); have RV7 := Lib.hid (V7.out.range 0 X (fun j v hv => by rw [Nat.zero_add]; exact hv)); clear ht; obtain ⟨⟨q0, q1, q2, q3, q4, q5⟩, k0, k1_, k2, k3, k4, k5⟩ := blk6 K7.out))
    rw [put6_eq]
    have hf := K7.out.put6 (a' := .int .i64 0) (b' := .int .i64 0) (c' := .int .i64 0) (d' := .int .i64 0) (e' := .int .i64 0) (f' := .int .i64 0)
    have hT := T7.out.put6 (g := w.heap.size) (.inr (Nat.le_refl _)) (.int .i64 0) (.int .i64 0) (.int .i64 0) (.int .i64 0) (.int .i64 0) (.int .i64 0)
    generalize put6 (w6.alloc (.cells #[.int .i64 g, .int .i64 r, .int .i64 t, .int .i64 e, .int .i64 lm, .int .i64 m] 23)) w.heap.size (.int .i64 0) (.int .i64 0) (.int .i64 0) (.int .i64 0) (.int .i64 0) (.int .i64 0) = WF at *
    clear q0 q1 q2 q3 q4 q5 k0 k1_ k2 k3 k4 k5
    obtain ⟨e0, e1, e2, e3, e4, e5⟩ := (blk6 hf).1
    exact bodyPost_ret (v := .tuple #[.agg #[.int .i64 0, .int .i64 0, .int .i64 0, .int .i64 0, .int .i64 0, .int .i64 0], .int .i64 4]) (by simp [results, Try.results15, go_sem, e0, e1, e2, e3, e4, e5]) rfl ⟨rfl, hT⟩
  · go_wp2_with (first
      | (refine wpList_load_mid rfl 87 _ rfl (w.heap.size + 1) 0 rfl X _ RV3.out Try.underlying87 rfl HIV.out ?_)
      | (go_at_call 39; (with_reducible refine (MK.out _).mono ?_); rintro e4 w4 ⟨rfl, ht⟩; have K4 := Lib.hid (K3.out.turn ht (fun h => h)); have V4 := Lib.hid (V3.out.turn ht (fun h => h)); have S4 := Lib.hid (S3.out.turn ht (fun h => h)); have T4 := Lib.hid (T3.out.trans ht); have RV4 := Lib.hid (V4.out.range 0 X (fun j v hv => by rw [Nat.zero_add]; exact hv)); clear ht)
      | (refine wpList_load_mid_on (by first | rfl | go_simp) 87 _ rfl (w.heap.size + 1) 0 rfl X _ RV4.out Try.underlying87 rfl HIV.out ?_)
      | (go_at_call 40; (with_reducible refine (WH.out _).mono ?_); rintro e5 w5 ⟨rfl, ht⟩; have K5 := Lib.hid (K4.out.turn ht (fun h => h)); have V5 := Lib.hid (V4.out.turn ht (fun h => h)); have S5 := Lib.hid (S4.out.turn ht (fun h => h)); have T5 := Lib.hid (T4.out.trans ht); have RV5 := Lib.hid (V5.out.range 0 X (fun j v hv => by rw [Nat.zero_add]; exact hv)); clear ht)
      | (refine wpList_load_mid_on (by first | rfl | go_simp) 87 _ rfl (w.heap.size + 1) 0 rfl X _ RV5.out Try.underlying87 rfl HIV.out ?_)
      | (go_at_call 41; (with_reducible refine (BL.out _).mono ?_); rintro e6 w6 ⟨rfl, ht⟩; have K6 := Lib.hid (K5.out.turn ht (fun h => h)); have V6 := Lib.hid (V5.out.turn ht (fun h => h)); have S6 := Lib.hid (S5.out.turn ht (fun h => h)); have T6 := Lib.hid (T5.out.trans ht); have RV6 := Lib.hid (V6.out.range 0 X (fun j v hv => by rw [Nat.zero_add]; exact hv)); clear ht; obtain ⟨p0, p1, p2, p3, p4, p5⟩ := (blk6 S6.out).1)
      | (go_at_call 12; (with_reducible refine (CK.out _).mono ?_); rintro e7 w7 ⟨rfl, rfl⟩; have ht := (Turn.refl (fun _ => False) w6).alloc (.cells #[.int .i64 g, .int .i64 r, .int .i64 t, .int .i64 e, .int .i64 lm, .int .i64 m] 23); have K7 := Lib.hid (K6.out.turn ht (fun h => h)); have V7 := Lib.hid (V6.out.turn ht (fun h => h)); have S7 := Lib.hid (S6.out.turn ht (fun h => h)); have T7 := Lib.hid (T6.out.trans ht); have RV7 := Lib.hid (V7.out.range 0 X (fun j v hv => by rw [Nat.zero_add]; exact hv)); clear ht; obtain ⟨⟨q0, q1, q2, q3, q4, q5⟩, k0, k1_, k2, k3, k4, k5⟩ := blk6 K7.out; (try clear p0 p1 p2 p3 p4 p5); obtain ⟨p0, p1, p2, p3, p4, p5⟩ := (blk6 S7.out).1))
    clear p0 p1 p2 p3 p4 p5
    rw [put6_eq]
    have hf := K7.out.put6 (a' := .int .i64 g) (b' := .int .i64 r) (c' := .int .i64 t) (d' := .int .i64 e) (e' := .int .i64 lm) (f' := .int .i64 m)
    have hT := T7.out.put6 (g := w.heap.size) (.inr (Nat.le_refl _)) (.int .i64 g) (.int .i64 r) (.int .i64 t) (.int .i64 e) (.int .i64 lm) (.int .i64 m)
    generalize put6 (w6.alloc (.cells #[.int .i64 g, .int .i64 r, .int .i64 t, .int .i64 e, .int .i64 lm, .int .i64 m] 23)) w.heap.size (.int .i64 g) (.int .i64 r) (.int .i64 t) (.int .i64 e) (.int .i64 lm) (.int .i64 m) = WF at *
    clear q0 q1 q2 q3 q4 q5 k0 k1_ k2 k3 k4 k5
    obtain ⟨e0, e1, e2, e3, e4, e5⟩ := (blk6 hf).1
    exact bodyPost_ret (v := .tuple #[.agg #[.int .i64 g, .int .i64 r, .int .i64 t, .int .i64 e, .int .i64 lm, .int .i64 m], .int .i64 0]) (by simp [results, Try.results15, go_sem, e0, e1, e2, e3, e4, e5]) rfl ⟨rfl, hT⟩
theorem readU_any (v : Value) (l : List UInt8) (w : World) (hv : Sl w w.heap.size v l) :
    Calls Try.prog 15 #[v] w fun e w' => e = .returned (rdU (readU l)) ∧ Turn (fun _ => False) w w' := by
  by_cases hl : l.length = 128
  · exact readU_128 v l w hv hl
  · rw [show readU l = none from by unfold readU; rw [if_neg (fun h => hl h.1)]]
    obtain ⟨A, cap, rfl, _⟩ := hv
    exact readU_short A l.length cap hl w
end Go.Proofs.Ytcjoinahelmmpaa
