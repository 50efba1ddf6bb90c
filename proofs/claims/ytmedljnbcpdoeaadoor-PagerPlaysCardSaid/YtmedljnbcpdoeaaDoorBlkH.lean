/- Layer 4: Write, where it is done. -/
import Derived.Test.YtmedljnbcpdoeaaDoorBlkFill
namespace Go.Proofs.YtmedljnbcpdoeaaDoor
open Go.RowKit Go.Maps
set_option linter.unusedVariables false

theorem built_write (i : Int) : Tryd.prog.built 99 [(1, Value.int .i64 i)] = some (bv zeros ++ [Value.int .i64 i]).toArray := by kernel_rfl
theorem wpList_build_write {ops : Array Oper} {rest : List Oper} {o : Oper} {a : Act} {w : World} {Q : Exit → Act → World → Prop} (hg : o.guard = none) (x : Operand) (ho : o.op = .build 99 #[(1, x)]) (i : Nat) (hx : a.eval x = .int .i64 (i : Int))
    (h : wpList Tryd.prog ops Q rest (a.put o.dst (.agg (wv (i, zeros)).toArray)) w) : wpList Tryd.prog ops Q (o :: rest) a w := by
  refine wpList_plain hg fun K hK => ?_
  have hb := run_build (P := Tryd.prog) w 99 #[(1, Value.int .i64 (i : Int))] _ (built_write i)
  unfold Oper.wp
  simp [execOp, ho, hx, hb, Result.andThen]
  exact hK _ _ h
theorem info_write3 : (Tryd.prog.info? 99).map (fun i => (i.zero, i.size, i.bytes)) = some (some (.agg (wv (0, zeros)).toArray), 129, 136) := by kernel_rfl
theorem ownsRow_alloc {w : World} {B t s n : Nat} {v : Value} {xs : List Value} (h : w.ownsRow B t s v n xs) (o : Obj) : (w.drew.alloc o).ownsRow B t s v n xs :=
  ownsRow_turn (S := fun _ => False) h ((Turn.refl _ _).drew.alloc o) (fun _ _ h => h)
theorem wf_nat_ {n : Nat} (h : n ≤ 9223372036854775807) : (Lit.int .i64 (n : Int)).wf = true := by
  simp [Lit.wf, IntKind.min, IntKind.max, IntKind.signed, IntKind.bits]; omega
theorem turn_grown_ {w w' : World} {row : Option Nat} (h : w.grownBy w' row) : Turn (fun k => row = some k) w w' :=
  ⟨h.os, h.tape, h.output, h.size, fun k hk hne => h.block k hk (fun e => hne e.symm)⟩
set_option maxRecDepth 100000 in
set_option maxHeartbeats 4000000 in
theorem write_ok {p gk gm : Nat} {vP : Value} {D : Dsk} (ok : D.Ok) (i : Nat) (hi : i < D.kept.length) (hd : D.dead = false) (hf : ¬ D.fuse = 0) (vb : Value) (l : List UInt8) (hl : l.length ≤ 128) (w : World) (h : DkM w p D gk gm vP)
    (hb : By (Own p gk gm vP) w vb l) (hp : D.pend.length < 1000000000) :
    Calls Tryd.prog 62 #[.pointer (some ⟨p, 0, none⟩), .int .i64 i, vb] w fun e w' => e = .returned (.int .i64 0) ∧ ∃ vP', DkM w' p (D.wrote i l) gk gm vP' ∧ Turn (Own p gk gm vP) w w' ∧ (vP'.ownBlock = vP.ownBlock ∨ ∀ k, vP'.ownBlock = some k → w.heap.size ≤ k) := by
  have HC := Lib.hid (checkSector_ok ok i w h)
  rw [hd, if_neg (by simp), if_neg (by omega)] at HC
  have HB := Lib.hid (burn_ok ok w h)
  rw [if_neg hf] at HB
  have H := Lib.hid h
  have HY := Lib.hid hb
  obtain ⟨A, cap, hv, _⟩ := hb
  obtain ⟨hz1, hz2⟩ := zero_of_info (P := Tryd.prog) (t := 99) (v := .agg (wv (0, zeros)).toArray) (n := 129) (by kernel_rfl)
  have Hz1 := Lib.hid hz1
  have HI : Hid ((Tryd.prog.info? 99).map (·.size) = some (wv (i, zeros)).toArray.size) := Lib.hid (by rw [hz2]; rfl)
  have HS : Hid ((wv (0, zeros)).toArray.size = (wv (i, zeros)).toArray.size) := Lib.hid rfl
  have H1 := Lib.hid (all_oneCell_toArray (one_wv (i, zeros)))
  obtain ⟨Z, hZ⟩ : ∃ Z, (wv (0, zeros)).toArray = Z := ⟨_, rfl⟩
  rw [hZ] at Hz1 HS hz1
  have hu8 : Hid ((Tryd.prog.info? 5).map (·.size) = some 1) := Lib.hid Tryd.cell5
  have hl' : (l.length : Int) ≤ 128 := by omega
  have hlz : Hid ((wv (i, zeros)).length = 129) := Lib.hid rfl
  have HF := Lib.hid (full_cells hl i)
  clear h hz2 hZ
  go_enter Tryd.func62, Tryd.ntmps62
  subst hv
  go_wp2_with (first
    | (go_at_call 68; refine HC.out.mono ?_; rintro e w' ⟨rfl, rfl⟩)
    | (go_at_call 73; refine HB.out.mono ?_; rintro e w2 ⟨rfl, h1, h2⟩; have M2 := Lib.hid h1; have T2 := Lib.hid h2; clear h1 h2)
    | (refine wpList_build_write rfl _ rfl i rfl ?_)
    | (refine wpList_store_new rfl 99 _ _ rfl Z (wv (i, zeros)).toArray rfl rfl HI.out HS.out H1.out ?_)
    | (refine wpList_copy_into rfl _ _ 47 rfl 5 Tryd.underlying47 hu8.out (Own p gk gm vP) l w2.heap.size 128 128 _ rfl rfl ((HY.out.turn T2.out (fun k e => .inl e)).turn ((Turn.refl (fun _ => False) _).alloc _) (fun k e => e.elim)) hl (wv (i, zeros)) 99 (Blk.new w2 _ _) (by have := hlz.out; omega) ?_; intro w3 h1 h2; rw [HF.out] at h1; have B3 := Lib.hid h1; have T3 := Lib.hid h2; clear h1 h2))
  have M3 : Hid (DkM w3 p D.burnt gk gm vP) := Lib.hid ((M2.out.turn (T := fun _ => False) ((Turn.refl _ _).alloc _) (fun _ _ h => h)).turn T3.out (fun k hk e => by have := own_lt M2.out k hk; omega))
  obtain ⟨ck0, c0, c1, c2, c3, c4, f1, f2, f3, f4⟩ := M3.out.cells
  obtain ⟨ck, hbk⟩ := M3.out.blk
  obtain ⟨rk, hkr⟩ := M3.out.kept
  have HBK := Lib.hid hbk
  have HKR := Lib.hid hkr
  clear hbk hkr
  obtain ⟨A', cap', hv⟩ := M3.out.vform
  obtain ⟨e1, e2⟩ := burnt_kept D
  rw [e2] at hv
  have HN3 : Hid (Nw w3.drew gm D.pend.length D.pend) := Lib.hid (by have := M3.out.nw; rw [e2] at this; exact this)
  have HW := Lib.hid (wf_nat (n := i) (by have := ok.most; omega))
  have HWL := Lib.hid (wf_nat_ (n := D.pend.length) (by omega))
  have hlen : Hid (D.pend.length < maxLen) := Lib.hid (by unfold maxLen; omega)
  have hv2 := hv
  obtain ⟨V, hV⟩ : ∃ V, vP = V := ⟨_, rfl⟩
  rw [hv] at c1
  refine wp_region_still_tail 10 (by kernel_rfl) (by kernel_rfl) ?_
  simp only [List.take_succ_cons, List.take_zero, List.drop_succ_cons, List.drop_zero]
  change wpStill _ _ (World.drew _) _ _ _
  repeat still_step
  refine wpStill_nil ?_
  change wpList _ _ _ _ _ (World.drew _)
  refine wpList_mapUpdate_own _ rfl _ _ _ 71 rfl 3 3 law_int Tryd.underlying71 _ gm D.pend.length (nw D.pend) rfl HN3.out hlen.out _ _ (.int .i64 (i : Int)) rfl rfl (keyOf_int_mk Tryd.underlying3 HW.out) (.lit (.int .i64 (D.pend.length : Int))) [] (plainElem_int Tryd.underlying3 HWL.out) ?_
  intro w4 hown4 hgrow4
  rw [← nw_snoc D.pend (i, full l)] at hown4
  have HN4 := Lib.hid hown4
  have T4 := Lib.hid (turn_grown_ hgrow4)
  clear hown4 hgrow4
  go_wp2
  have hx2 : ((i, full l) : Nat × List UInt8).2.length = 128 := len_full hl
  have hlw : (wv (i, full l)).length = 129 := len_wv hx2
  have how : ∀ v ∈ wv (i, full l), v.oneCell' = true := one_wv _
  obtain ⟨X, hX⟩ : ∃ X, wv (i, full l) = X := ⟨_, rfl⟩
  rw [hX] at hlw how
  have hlt4 : w2.heap.size < w4.heap.size := by have := B3.out.lt; have := T4.out.size; simp at this; omega
  have hplt : p < w4.heap.size := by have := M3.out.plt; have := T4.out.size; simp at this; omega
  have hne4 : gm ≠ w2.heap.size := by have := own_lt M2.out gm (.inr (.inr (.inl rfl))); omega
  have HB4 : Hid (Blk w4 w2.heap.size 99 X) := Lib.hid (by have := Blk.turn (w := w3.drew) (w' := w4) B3.out T4.out (by simp; omega); rw [hX] at this; exact this)
  have hr4 : w4.rangeAt w2.heap.size 0 X := HB4.out.range 0 X (fun j v hv => by rw [Nat.zero_add]; exact hv)
  have HP4 : Hid (Blk w4 p 73 [.slice (some ⟨gk, 0, none⟩) D.burnt.kept.length ck, .slice A' D.pend.length cap', .map (some gm), .int .i64 D.burnt.fuse, .bool D.burnt.dead]) := Lib.hid (by
    have := Blk.turn (w := w3.drew) (w' := w4) HBK.out T4.out (fun e => M3.out.pm (by injection e with e; exact e.symm))
    rw [hv] at this; exact this)
  have d1 : w4.cell? ⟨p, 1, none⟩ = some (.slice A' D.pend.length cap') := HP4.out.cell 1
  have g1 : w4.frozen? ⟨p, 1, none⟩ = false := HP4.out.free 1
  have HO4 : Hid (w4.ownsRow 0 99 129 (.slice A' D.pend.length cap') D.pend.length (D.pend.flatMap wv)) := Lib.hid (by
    have := ownsRow_turn (w := w3.drew) (w' := w4) M3.out.pend T4.out (fun k hk e => M3.out.vm (by rw [hk]; injection e with e; rw [e]))
    rw [e2, hv] at this; exact this)
  obtain ⟨j0, hj, hjz, hjs, hjb⟩ := info_parts_ info_write3
  have HJ := Lib.hid hj
  have HJZ := Lib.hid hjz
  have HJS := Lib.hid hjs
  have HJB := Lib.hid hjb
  have HNEW : Hid (∀ j u, X[j]? = some u → (World.alloc (World.drew w4) (.cells X.toArray 99)).cell? ((⟨w4.heap.size, 0, none⟩ : Addr).add j) = some u) := Lib.hid (fun j u hu => by rw [Addr.add_mid, Nat.zero_add]; exact ((Blk.new (World.drew w4) 99 X).cell j).trans hu)
  have hu71 := Tryd.underlying99
  have hi71 : (Tryd.prog.info? 99).map (·.size) = some X.length := by rw [info_write, hlw]
  clear c0 c1 c2 c3 c4 f1 f2 f3 f4 hj hjz hjs hjb
  refine wp_region_held_drew (S := (fun w' => w'.rangeAt w2.heap.size 0 X)) (by kernel_rfl) ?_ (fun hHeld => ?_)
  · exact hr4
  refine wpAnyH_take (i := 0) (v := .pointer (some ⟨p, 0, none⟩)) rfl (by kernel_rfl) (by kernel_rfl) (by kernel_rfl) (fun _ _ _ h => h) (Or.inl ⟨by rfl, ?_⟩) (by assumption) ?_
  · intro w' hSw
    go_simp
  try simp only [List.getElem_toArray, List.getElem_cons_zero, Act.put, List.setIfInBounds_toArray, List.set_cons_zero, List.set_cons_succ]
  refine wpAnyH_take (i := 1) (v := .pointer (some ⟨p, 0, none⟩)) rfl (by kernel_rfl) (by kernel_rfl) (by kernel_rfl) (fun _ _ _ h => h) (Or.inl ⟨by rfl, ?_⟩) (by assumption) ?_
  · intro w' hSw
    go_simp
  try simp only [List.getElem_toArray, List.getElem_cons_zero, List.getElem_cons_succ, Act.put, List.setIfInBounds_toArray, List.set_cons_zero, List.set_cons_succ]
  refine wpAnyH_take (i := 2) (v := .pointer (some ⟨p, 0, none⟩)) rfl (by kernel_rfl) (by kernel_rfl) (by kernel_rfl) (fun _ _ _ h => h) (Or.inl ⟨by rfl, ?_⟩) (by assumption) ?_
  · intro w' hSw
    go_simp
  try simp only [List.getElem_toArray, List.getElem_cons_zero, List.getElem_cons_succ, Act.put, List.setIfInBounds_toArray, List.set_cons_zero, List.set_cons_succ]
  refine wpAnyH_take (i := 3) (v := .pointer (some ⟨p, 1, none⟩)) rfl (by kernel_rfl) (by kernel_rfl) (by kernel_rfl) (fun _ _ _ h => h) (Or.inl ⟨by rfl, ?_⟩) (by assumption) ?_
  · intro w' hSw
    go_simp
  try simp only [List.getElem_toArray, List.getElem_cons_zero, List.getElem_cons_succ, Act.put, List.setIfInBounds_toArray, List.set_cons_zero, List.set_cons_succ]
  refine wpAnyH_take (i := 5) (v := .agg X.toArray) rfl (by kernel_rfl) (by kernel_rfl) (by kernel_rfl) (fun _ _ _ h => h) (yieldsIf_load_mid (by rfl) _ _ rfl _ _ rfl X _ (fun w h => h) hu71 rfl hi71) (by assumption) ?_
  try simp only [List.getElem_toArray, List.getElem_cons_zero, List.getElem_cons_succ, Act.put, List.setIfInBounds_toArray, List.set_cons_zero, List.set_cons_succ]
  refine wpAnyH_ready (rs := [4, 6]) (by kernel_rfl) (by simp) ?_
  refine AllReadyH.cons rfl (fun K hK => ?_) (AllReadyH.cons rfl (fun K hK => ?_) AllReadyH.nil)
  · go_simp
    refine hK.out _ _ hr4 (fun hHeld => ?_)
    clear hK K
    try simp only [List.getElem_toArray, List.getElem_cons_zero, List.getElem_cons_succ, Act.put, List.setIfInBounds_toArray, List.set_cons_zero, List.set_cons_succ]
    refine wpAnyH_ready (rs := [6]) (by kernel_rfl) (by simp) ?_
    refine AllReadyH.cons rfl (fun K hK => ?_) AllReadyH.nil
    refine step_buildSlice1 rfl 70 99 _ rfl j0 _ 129 X rfl Tryd.underlying70 HJ.out HJZ.out HJS.out (by decide) (by decide) hlw ?_
    refine hK.out _ _ (World.rangeAt_alloc (by simpa using hr4) _) (fun hHeld => ?_)
    clear hK K
    try simp only [List.getElem_toArray, List.getElem_cons_zero, List.getElem_cons_succ, Act.put, List.setIfInBounds_toArray, List.set_cons_zero, List.set_cons_succ]
    refine wpAnyH_ready (rs := [7]) (by kernel_rfl) (by simp) ?_
    refine AllReadyH.cons rfl (fun K hK => ?_) AllReadyH.nil
    refine step_append_lies _ rfl _ _ 70 rfl 0 99 j0 _ 129 136 Tryd.underlying70 HJ.out HJZ.out HJS.out HJB.out (by rfl) (by decide) (.slice A' D.pend.length cap') D.pend.length (D.pend.flatMap wv) rfl (ownsRow_alloc HO4.out _) ⟨w4.heap.size, 0, none⟩ 1 1 X rfl (by omega) (HNEW.out) how (by decide) (by unfold maxLen; omega) (by omega) (Nat.zero_le _) (w4.heap.size + 1) (by simp) ?_
    intro g6 cap6 w6 ho6 hg6 hl6 hz6
    have HO6 := Lib.hid ho6
    have T6 : Hid (Turn (fun k => vP.ownBlock = some k) (World.alloc (World.drew w4) (.cells X.toArray 99)) w6) := Lib.hid (by rw [hv]; exact turn_grown_ hg6)
    have HP6 : Hid (Blk w6 p 73 [.slice (some ⟨gk, 0, none⟩) D.burnt.kept.length ck, .slice A' D.pend.length cap', .map (some gm), .int .i64 D.burnt.fuse, .bool D.burnt.dead]) := Lib.hid ((HP4.out.drew.alloc _).turn T6.out M3.out.vp)
    have hr6 : w6.rangeAt w2.heap.size 0 X := ((HB4.out.drew.alloc _).turn T6.out (fun e => by have := own_lt M2.out _ (.inr (.inr (.inr e))); omega)).range 0 X (fun j v hv => by rw [Nat.zero_add]; exact hv)
    have y1 : w6.cell? ⟨p, 1, none⟩ = some (.slice A' D.pend.length cap') := HP6.out.cell 1
    have y2 : w6.frozen? ⟨p, 1, none⟩ = false := HP6.out.free 1
    refine hK.out _ _ hr6 (fun hHeld => ?_)
    clear hK K
    try simp only [List.getElem_toArray, List.getElem_cons_zero, List.getElem_cons_succ, Act.put, List.setIfInBounds_toArray, List.set_cons_zero, List.set_cons_succ]
    refine wpAnyH_take (i := 8) (v := .pointer (some ⟨p, 0, none⟩)) rfl (by kernel_rfl) (by kernel_rfl) (by kernel_rfl) (fun _ _ _ h => h) (Or.inl ⟨by rfl, ?_⟩) (by assumption) ?_
    · intro w' hSw
      go_simp
    try simp only [List.getElem_toArray, List.getElem_cons_zero, List.getElem_cons_succ, Act.put, List.setIfInBounds_toArray, List.set_cons_zero, List.set_cons_succ]
    refine wpAnyH_take (i := 9) (v := .pointer (some ⟨p, 1, none⟩)) rfl (by kernel_rfl) (by kernel_rfl) (by kernel_rfl) (fun _ _ _ h => h) (Or.inl ⟨by rfl, ?_⟩) (by assumption) ?_
    · intro w' hSw
      go_simp
    try simp only [List.getElem_toArray, List.getElem_cons_zero, List.getElem_cons_succ, Act.put, List.setIfInBounds_toArray, List.set_cons_zero, List.set_cons_succ]
    refine wpAnyH_ready (rs := [10]) (by kernel_rfl) (by simp) ?_
    refine AllReadyH.cons rfl (fun K hK => ?_) AllReadyH.nil
    go_simp
    refine hK.out _ _ ?_ (fun hHeld => ?_)
    · intro j v hj
      rw [World.cell?_setCell_far _ _ _ _ (fun e => by have := own_lt M2.out p (.inl rfl); simp at e; omega)]
      exact hr6 j v hj
    clear hK K
    refine wpAnyH_done (by kernel_rfl) ?_ _
    go_wp2
    go_ret
    have hz2 := T2.out.size
    have hz3 : w2.heap.size + 1 ≤ w3.heap.size := by have := T3.out.size; simp at this; exact this
    have hz4 : w3.heap.size ≤ w4.heap.size := T4.out.size
    have TA : Turn (Own p gk gm vP) w w6 := (((((T2.out.mono (fun _ _ e => .inl e)).alloc _).trans_new T3.out (fun k hk e => by omega)).drew.trans_new T4.out (fun k hk e => .inr (.inr (.inl (by injection e with e; exact e.symm))))).drew.alloc _).trans_new T6.out (fun k hk e => .inr (.inr (.inr e)))
    have T46 : ∀ S : Nat → Prop, (∀ k, vP.ownBlock = some k → S k) → Turn S w4 w6 := fun S hS => ((Turn.refl S w4).drew.alloc _).trans_new T6.out (fun k hk e => hS k e)
    have hk6 := (Blk.turn (w := w3.drew) HKR.out T4.out (fun e => M3.out.km (by injection e with e; exact e.symm))).turn (T46 (fun k => vP.ownBlock = some k) (fun _ h => h)) M3.out.vk
    have hn6 : Nw w6 gm (D.pend.length + 1) (D.pend ++ [(i, full l)]) := Nw.turn (w := w4) HN4.out (T46 (fun k => vP.ownBlock = some k) (fun _ h => h)) M3.out.vm
    have hg6 : g6 ≠ p ∧ g6 ≠ gk ∧ g6 ≠ gm ∧ (vP.ownBlock = some g6 ∨ w.heap.size ≤ g6) := by
      have l1 := own_lt M2.out p (.inl rfl)
      have l2 := own_lt M2.out gk (.inr (.inl rfl))
      have l3 := own_lt M2.out gm (.inr (.inr (.inl rfl)))
      rcases hl6 with e | e
      · rw [← hv] at e
        exact ⟨fun h => M3.out.vp (h ▸ e), fun h => M3.out.vk (h ▸ e), fun h => M3.out.vm (h ▸ e), .inl e⟩
      · exact ⟨by omega, by omega, by omega, .inr (by omega)⟩
    have tp : Turn (· = p) w6 (w6.setCell ⟨p, 1, none⟩ (.slice (some ⟨g6, 0, none⟩) (D.pend.length + 1) cap6)) := turn_p p 1 _
    have ho7 := ownsRow_turn HO6.out tp (fun k hk e => hg6.1 (by simp [Value.ownBlock] at hk; omega))
    rw [← hv]
    refine ⟨rfl, .slice (some ⟨g6, 0, none⟩) (D.pend.length + 1) cap6, ⟨?_, ?_, ?_, ?_, M3.out.pk, M3.out.pm, M3.out.km, ?_, ?_, ?_⟩, ?_, ?_⟩
    · have := HP6.out.put 1 (.slice (some ⟨g6, 0, none⟩) (D.pend.length + 1) cap6)
      exact ⟨ck, by simpa [Dsk.wrote] using this⟩
    · exact ⟨rk, Blk.turn hk6 tp (fun e => M3.out.pk e.symm)⟩
    · have e : (D.pend ++ [(i, full l)]).flatMap wv = D.pend.flatMap wv ++ X := by rw [List.flatMap_append, ← hX]; simp
      show World.ownsRow _ 0 _ 129 _ (D.pend ++ [(i, full l)]).length ((D.pend ++ [(i, full l)]).flatMap wv)
      rw [e]
      simpa using ho7
    · have := Nw.turn hn6 tp (fun e => M3.out.pm e.symm)
      simpa [Dsk.wrote] using this
    · simp only [Value.ownBlock]; intro e; injection e with e; exact hg6.1 e
    · simp only [Value.ownBlock]; intro e; injection e with e; exact hg6.2.1 e
    · simp only [Value.ownBlock]; intro e; injection e with e; exact hg6.2.2.1 e
    · exact TA.setCell (p := ⟨p, 1, none⟩) (.inl (.inl rfl)) _
    · rcases hg6.2.2.2 with e | e
      · exact .inl (by rw [e]; rfl)
      · exact .inr (fun k hk => by simp only [Value.ownBlock] at hk; injection hk with hk; omega)
  · refine step_buildSlice1 rfl 70 99 _ rfl j0 _ 129 X rfl Tryd.underlying70 HJ.out HJZ.out HJS.out (by decide) (by decide) hlw ?_
    refine hK.out _ _ (World.rangeAt_alloc (by simpa using hr4) _) (fun hHeld => ?_)
    clear hK K
    try simp only [List.getElem_toArray, List.getElem_cons_zero, List.getElem_cons_succ, Act.put, List.setIfInBounds_toArray, List.set_cons_zero, List.set_cons_succ]
    have d5 : (World.alloc (World.drew w4) (.cells X.toArray 99)).cell? ⟨p, 1, none⟩ = some (.slice A' D.pend.length cap') := (HP4.out.drew.alloc _).cell 1
    refine wpAnyH_ready (rs := [4]) (by kernel_rfl) (by simp) ?_
    refine AllReadyH.cons rfl (fun K hK => ?_) AllReadyH.nil
    go_simp
    refine hK.out _ _ (World.rangeAt_alloc (by simpa using hr4) _) (fun hHeld => ?_)
    clear hK K
    try simp only [List.getElem_toArray, List.getElem_cons_zero, List.getElem_cons_succ, Act.put, List.setIfInBounds_toArray, List.set_cons_zero, List.set_cons_succ]
    refine wpAnyH_ready (rs := [7]) (by kernel_rfl) (by simp) ?_
    refine AllReadyH.cons rfl (fun K hK => ?_) AllReadyH.nil
    refine step_append_lies _ rfl _ _ 70 rfl 0 99 j0 _ 129 136 Tryd.underlying70 HJ.out HJZ.out HJS.out HJB.out (by rfl) (by decide) (.slice A' D.pend.length cap') D.pend.length (D.pend.flatMap wv) rfl (ownsRow_alloc HO4.out _) ⟨w4.heap.size, 0, none⟩ 1 1 X rfl (by omega) (HNEW.out) how (by decide) (by unfold maxLen; omega) (by omega) (Nat.zero_le _) (w4.heap.size + 1) (by simp) ?_
    intro g6 cap6 w6 ho6 hg6 hl6 hz6
    have HO6 := Lib.hid ho6
    have T6 : Hid (Turn (fun k => vP.ownBlock = some k) (World.alloc (World.drew w4) (.cells X.toArray 99)) w6) := Lib.hid (by rw [hv]; exact turn_grown_ hg6)
    have HP6 : Hid (Blk w6 p 73 [.slice (some ⟨gk, 0, none⟩) D.burnt.kept.length ck, .slice A' D.pend.length cap', .map (some gm), .int .i64 D.burnt.fuse, .bool D.burnt.dead]) := Lib.hid ((HP4.out.drew.alloc _).turn T6.out M3.out.vp)
    have hr6 : w6.rangeAt w2.heap.size 0 X := ((HB4.out.drew.alloc _).turn T6.out (fun e => by have := own_lt M2.out _ (.inr (.inr (.inr e))); omega)).range 0 X (fun j v hv => by rw [Nat.zero_add]; exact hv)
    have y1 : w6.cell? ⟨p, 1, none⟩ = some (.slice A' D.pend.length cap') := HP6.out.cell 1
    have y2 : w6.frozen? ⟨p, 1, none⟩ = false := HP6.out.free 1
    refine hK.out _ _ hr6 (fun hHeld => ?_)
    clear hK K
    try simp only [List.getElem_toArray, List.getElem_cons_zero, List.getElem_cons_succ, Act.put, List.setIfInBounds_toArray, List.set_cons_zero, List.set_cons_succ]
    refine wpAnyH_take (i := 8) (v := .pointer (some ⟨p, 0, none⟩)) rfl (by kernel_rfl) (by kernel_rfl) (by kernel_rfl) (fun _ _ _ h => h) (Or.inl ⟨by rfl, ?_⟩) (by assumption) ?_
    · intro w' hSw
      go_simp
    try simp only [List.getElem_toArray, List.getElem_cons_zero, List.getElem_cons_succ, Act.put, List.setIfInBounds_toArray, List.set_cons_zero, List.set_cons_succ]
    refine wpAnyH_take (i := 9) (v := .pointer (some ⟨p, 1, none⟩)) rfl (by kernel_rfl) (by kernel_rfl) (by kernel_rfl) (fun _ _ _ h => h) (Or.inl ⟨by rfl, ?_⟩) (by assumption) ?_
    · intro w' hSw
      go_simp
    try simp only [List.getElem_toArray, List.getElem_cons_zero, List.getElem_cons_succ, Act.put, List.setIfInBounds_toArray, List.set_cons_zero, List.set_cons_succ]
    refine wpAnyH_ready (rs := [10]) (by kernel_rfl) (by simp) ?_
    refine AllReadyH.cons rfl (fun K hK => ?_) AllReadyH.nil
    go_simp
    refine hK.out _ _ ?_ (fun hHeld => ?_)
    · intro j v hj
      rw [World.cell?_setCell_far _ _ _ _ (fun e => by have := own_lt M2.out p (.inl rfl); simp at e; omega)]
      exact hr6 j v hj
    clear hK K
    refine wpAnyH_done (by kernel_rfl) ?_ _
    go_wp2
    go_ret
    have hz2 := T2.out.size
    have hz3 : w2.heap.size + 1 ≤ w3.heap.size := by have := T3.out.size; simp at this; exact this
    have hz4 : w3.heap.size ≤ w4.heap.size := T4.out.size
    have TA : Turn (Own p gk gm vP) w w6 := (((((T2.out.mono (fun _ _ e => .inl e)).alloc _).trans_new T3.out (fun k hk e => by omega)).drew.trans_new T4.out (fun k hk e => .inr (.inr (.inl (by injection e with e; exact e.symm))))).drew.alloc _).trans_new T6.out (fun k hk e => .inr (.inr (.inr e)))
    have T46 : ∀ S : Nat → Prop, (∀ k, vP.ownBlock = some k → S k) → Turn S w4 w6 := fun S hS => ((Turn.refl S w4).drew.alloc _).trans_new T6.out (fun k hk e => hS k e)
    have hk6 := (Blk.turn (w := w3.drew) HKR.out T4.out (fun e => M3.out.km (by injection e with e; exact e.symm))).turn (T46 (fun k => vP.ownBlock = some k) (fun _ h => h)) M3.out.vk
    have hn6 : Nw w6 gm (D.pend.length + 1) (D.pend ++ [(i, full l)]) := Nw.turn (w := w4) HN4.out (T46 (fun k => vP.ownBlock = some k) (fun _ h => h)) M3.out.vm
    have hg6 : g6 ≠ p ∧ g6 ≠ gk ∧ g6 ≠ gm ∧ (vP.ownBlock = some g6 ∨ w.heap.size ≤ g6) := by
      have l1 := own_lt M2.out p (.inl rfl)
      have l2 := own_lt M2.out gk (.inr (.inl rfl))
      have l3 := own_lt M2.out gm (.inr (.inr (.inl rfl)))
      rcases hl6 with e | e
      · rw [← hv] at e
        exact ⟨fun h => M3.out.vp (h ▸ e), fun h => M3.out.vk (h ▸ e), fun h => M3.out.vm (h ▸ e), .inl e⟩
      · exact ⟨by omega, by omega, by omega, .inr (by omega)⟩
    have tp : Turn (· = p) w6 (w6.setCell ⟨p, 1, none⟩ (.slice (some ⟨g6, 0, none⟩) (D.pend.length + 1) cap6)) := turn_p p 1 _
    have ho7 := ownsRow_turn HO6.out tp (fun k hk e => hg6.1 (by simp [Value.ownBlock] at hk; omega))
    rw [← hv]
    refine ⟨rfl, .slice (some ⟨g6, 0, none⟩) (D.pend.length + 1) cap6, ⟨?_, ?_, ?_, ?_, M3.out.pk, M3.out.pm, M3.out.km, ?_, ?_, ?_⟩, ?_, ?_⟩
    · have := HP6.out.put 1 (.slice (some ⟨g6, 0, none⟩) (D.pend.length + 1) cap6)
      exact ⟨ck, by simpa [Dsk.wrote] using this⟩
    · exact ⟨rk, Blk.turn hk6 tp (fun e => M3.out.pk e.symm)⟩
    · have e : (D.pend ++ [(i, full l)]).flatMap wv = D.pend.flatMap wv ++ X := by rw [List.flatMap_append, ← hX]; simp
      show World.ownsRow _ 0 _ 129 _ (D.pend ++ [(i, full l)]).length ((D.pend ++ [(i, full l)]).flatMap wv)
      rw [e]
      simpa using ho7
    · have := Nw.turn hn6 tp (fun e => M3.out.pm e.symm)
      simpa [Dsk.wrote] using this
    · simp only [Value.ownBlock]; intro e; injection e with e; exact hg6.1 e
    · simp only [Value.ownBlock]; intro e; injection e with e; exact hg6.2.1 e
    · simp only [Value.ownBlock]; intro e; injection e with e; exact hg6.2.2.1 e
    · exact TA.setCell (p := ⟨p, 1, none⟩) (.inl (.inl rfl)) _
    · rcases hg6.2.2.2 with e | e
      · exact .inl (by rw [e]; rfl)
      · exact .inr (fun k hk => by simp only [Value.ownBlock] at hk; injection hk with hk; omega)
end Go.Proofs.YtmedljnbcpdoeaaDoor
