/- Layer 4: a write is kept; a new disk. -/
import Derived.Test.YtmedljnbcpdoeaaDoorBlkC
import Derived.Deep.WholeRow
namespace Go.Proofs.YtmedljnbcpdoeaaDoor
open Go.RowKit Go.Maps
set_option linter.unusedVariables false

theorem Blk.setCells {g t : Nat} : ∀ (vs : List Value) (o : Nat) (w : World) (cs : List Value), Blk w g t cs → o + vs.length ≤ cs.length → Blk (w.setCells g o vs) g t (cs.take o ++ vs ++ cs.drop (o + vs.length))
  | [], o, w, cs, h, hl => by simpa [World.setCells] using h
  | v :: r, o, w, cs, h, hl => by
    have h1 := Blk.setCells r (o + 1) _ _ (h.put o v) (by simp at hl ⊢; omega)
    simp only [World.setCells]
    simp only [List.length_cons] at hl ⊢
    have e : (cs.set o v).take (o + 1) ++ r ++ (cs.set o v).drop (o + 1 + r.length) = cs.take o ++ v :: r ++ cs.drop (o + (r.length + 1)) := by
      rw [List.take_succ_eq_append_getElem (by simp; omega), List.getElem_set_self, List.take_set_of_le (by omega), List.drop_set_of_lt (by omega)]
      simp [show o + 1 + r.length = o + (r.length + 1) from by omega]
    rw [e] at h1
    exact h1
theorem Turn.setCells {S : Nat → Prop} {g : Nat} : ∀ (vs : List Value) (o : Nat) {w w' : World}, Turn S w w' → S g ∨ w.heap.size ≤ g → Turn S w (w'.setCells g o vs)
  | [], _, _, _, h, _ => h
  | v :: r, o, _, _, h, hg => Turn.setCells r (o + 1) (h.setCell (p := ⟨g, o, none⟩) hg v) hg
theorem Blk.there {w : World} {g t : Nat} {cs : List Value} (h : Blk w g t cs) (o n : Nat) (hl : o + n ≤ cs.length) : w.there g o n := fun j hj => by
  refine ⟨?_, h.free _⟩
  rw [h.cell, List.getElem?_eq_getElem (by omega)]; rfl
theorem Blk.range {w : World} {g t : Nat} {cs : List Value} (h : Blk w g t cs) (o : Nat) (vs : List Value) (hv : ∀ j v, vs[j]? = some v → cs[o + j]? = some v) : w.rangeAt g o vs := fun j v hj => by
  rw [h.cell]; exact hv j v hj
theorem wpStill_load_mid {P : Program} {ops : Array Oper} {rest : List Oper} {op : Oper} {a : Act} {w : World} {Lq : Act → Prop} (hgd : op.guard = none) (ty : TypeId) (x : Operand) (ho : op.op = .load ty x)
    (b o : Nat) (hx : a.eval x = .pointer (some ⟨b, o, none⟩)) (cs : List Value) (d : TypeDesc) (hc : w.rangeAt b o cs)
    (hu : P.underlying ty = some d) (hd : d.isRow = true) (hi : (P.info? ty).map (·.size) = some cs.length)
    (h : wpStill P ops w Lq rest (a.put op.dst (.agg cs.toArray))) : wpStill P ops w Lq (op :: rest) a := by
  refine wpStill_step fun K hK => ?_
  have hw : Region.wanted op (yielded ops a.tmps) = true := by simp [Region.wanted, hgd]
  rw [if_pos hw]
  unfold Oper.still execOp
  simp only [ho, hx, Instr.loadAt, Instr.sureAddr, Sem.run_bind, Sem.run_pure, Result.andThen_ok, run_loadVar_mid w b o ty cs d hc hu hd hi, Oper.stillUpon_value]
  exact hK _ h
theorem info_sector : (Tryd.prog.info? 97).map (·.size) = some 128 := by kernel_rfl
theorem info_write : (Tryd.prog.info? 99).map (·.size) = some 129 := by kernel_rfl

def Dsk.keepW (D : Dsk) (x : Nat × List UInt8) : Dsk := { D with kept := D.kept.set x.1 x.2 }
theorem Dsk.Ok.keepW {D : Dsk} (h : D.Ok) {x : Nat × List UInt8} (hx : x.2.length = 128) : (D.keepW x).Ok :=
  ⟨by simpa [Dsk.keepW] using h.pos, by simpa [Dsk.keepW] using h.most, fun s hs => by
    rcases List.mem_or_eq_of_mem_set hs with h1 | h1
    · exact h.kept s h1
    · rw [h1]; exact hx, fun y hy => by simpa [Dsk.keepW] using h.pend y hy, h.fuse⟩
theorem keep_mem {p gk gm : Nat} {vP : Value} {D : Dsk} {w w1 : World} (ok : D.Ok) (x : Nat × List UInt8) (hx : x.1 < D.kept.length) (hl : x.2.length = 128) (h : DkM w p D gk gm vP) (ht : Turn (fun _ => False) w w1) :
    DkM (w1.setCells gk (x.1 * 128) (bv x.2)) p (D.keepW x) gk gm vP ∧ Turn (· = gk) w (w1.setCells gk (x.1 * 128) (bv x.2)) := by
  have h1 := h.turn ht fun _ _ h => h
  have t1 : Turn (· = gk) w (w1.setCells gk (x.1 * 128) (bv x.2)) := Turn.setCells _ _ (ht.mono fun _ _ h => h.elim) (.inl rfl)
  have hfl : (D.kept.flatMap bv).length = D.kept.length * 128 := len_flat bv 128 _ ok.lenk
  refine ⟨⟨?_, ?_, ownsRow_turn h.pend t1 (fun k hk e => h.vk (e ▸ hk)), h.nw.turn t1 (fun e => h.km e.symm), h.pk, h.pm, h.km, h.vp, h.vk, h.vm⟩, t1⟩
  · obtain ⟨ck, hb⟩ := h.blk
    have := hb.turn t1 h.pk
    exact ⟨ck, by simpa [Dsk.keepW] using this⟩
  · obtain ⟨r, hr⟩ := h1.kept
    have h2 := Blk.setCells (bv x.2) (x.1 * 128) _ _ hr (by rw [List.length_append, hfl, len_bv, hl]; omega)
    rw [len_bv, hl, List.take_append_of_le_length (by rw [hfl]; omega), List.drop_append_of_le_length (by rw [hfl]; omega), ← List.append_assoc] at h2
    refine ⟨r, ?_⟩
    show Blk _ gk _ ((D.kept.set x.1 x.2).flatMap bv ++ r)
    rw [flat_set bv 128 D.kept ok.lenk x.1 x.2 hx (by rw [len_bv]; exact hl)]
    exact h2
set_option maxRecDepth 100000 in
theorem keep_ok {p gk gm : Nat} {vP : Value} {D : Dsk} (ok : D.Ok) (x : Nat × List UInt8) (hx : x.1 < D.kept.length) (hl : x.2.length = 128) (w : World) (h : DkM w p D gk gm vP) :
    Calls Tryd.prog 55 #[.pointer (some ⟨p, 0, none⟩), .agg (wv x).toArray] w fun e w' => e = .returned (.tuple #[]) ∧ DkM w' p (D.keepW x) gk gm vP ∧ Turn (· = gk) w w' := by
  have H := Lib.hid h
  have hbx := Lib.hid (Blk.new w 99 (wv x))
  have tW : Hid (Turn (fun _ => False) w (w.alloc (.cells (wv x).toArray 99))) := (Turn.refl _ _).alloc _
  obtain ⟨ck, c0, _⟩ := (h.turn tW.out fun _ _ h => h).cells
  have cat : (w.alloc (.cells (wv x).toArray 99)).cell? ⟨w.heap.size, 128, none⟩ = some (.int .i64 (x.1 : Int)) := by
    rw [hbx.out.cell, wv, List.getElem?_append_right (by rw [len_bv]; omega), len_bv, hl]; rfl
  have hrg : (w.alloc (.cells (wv x).toArray 99)).rangeAt w.heap.size 0 (bv x.2) := hbx.out.range 0 _ fun j v hv => by
    rw [Nat.zero_add, wv, List.getElem?_append_left (List.getElem?_eq_some_iff.1 hv).1]; exact hv
  have HLD : Hid (World.rangeAt (World.drew (w.alloc (.cells (wv x).toArray 99))) w.heap.size 0 (bv x.2)) := Lib.hid (by simpa using hrg)
  have HIL : Hid ((Tryd.prog.info? 97).map (·.size) = some (bv x.2).length) := Lib.hid (by rw [info_sector, len_bv, hl])
  have HTH : Hid ((World.drew (w.alloc (.cells (wv x).toArray 99))).there gk (x.1 * 128) (bv x.2).toArray.size) := by
    refine Lib.hid ?_
    obtain ⟨r, hr⟩ := (H.out.turn tW.out fun _ _ h => h).kept
    have := hr.there (x.1 * 128) 128 (by rw [List.length_append, len_flat bv 128 _ ok.lenk]; omega)
    simpa [len_bv, hl] using this
  have HI : Hid ((Tryd.prog.info? 97).map (·.size) = some (bv x.2).toArray.size) := Lib.hid (by rw [info_sector]; simp [len_bv, hl])
  have H1 := Lib.hid (all_oneCell_toArray (one_bv x.2))
  have hx0 : (0 : Int) ≤ (x.1 : Int) := Int.natCast_nonneg _
  have hx1 : (x.1 : Int) < (D.kept.length : Int) := by omega
  have HM := Lib.hid (fun w1 ht => keep_mem (w1 := w1) ok x hx hl h ht)
  clear h hrg
  obtain ⟨W, hW⟩ : ∃ W, w.alloc (.cells (wv x).toArray 99) = W := ⟨_, rfl⟩
  rw [hW] at c0 cat HLD HTH tW
  go_enter Tryd.func55, Tryd.ntmps55
  go_wp2
  try rw [hW]
  refine wp_region_still_tail 9 (by kernel_rfl) (by kernel_rfl) ?_
  simp only [List.take_succ_cons, List.take_zero, List.drop_succ_cons, List.drop_zero]
  change wpStill _ _ (World.drew _) _ _ _
  iterate 7 still_step
  refine wpStill_load_mid rfl _ _ rfl w.heap.size 0 rfl (bv x.2) _ HLD.out Tryd.underlying97 rfl HIL.out ?_
  still_step
  refine wpStill_nil ?_
  change wpList _ _ _ _ _ (World.drew _)
  refine wpList_store_mid rfl _ _ _ rfl gk (x.1 * 128) (bv x.2).toArray rfl rfl HTH.out HI.out H1.out ?_
  go_wp2
  go_end0
  exact ⟨rfl, HM.out _ tW.out.drew⟩
end Go.Proofs.YtmedljnbcpdoeaaDoor
