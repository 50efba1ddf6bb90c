/- Layer 4: Read. -/
import Derived.Test.YtmedljnbcpdoeaaDoorBlkE
namespace Go.Proofs.YtmedljnbcpdoeaaDoor
open Go.RowKit Go.Maps
set_option linter.unusedVariables false

theorem wpList_store_new {P : Program} {ops : Array Oper} {rest : List Oper} {op : Oper} {a : Act} {w : World} {Q : Exit → Act → World → Prop} (hgd : op.guard = none) (t : TypeId) (x y : Operand) (ho : op.op = .store t x y)
    (c c' : Array Value) (hx : a.eval x = .pointer (some ⟨w.heap.size, 0, none⟩)) (hy : a.eval y = .agg c') (hi : (P.info? t).map (·.size) = some c'.size) (hs : c.size = c'.size) (h1 : c'.all (·.oneCell') = true)
    (h : wpList P ops Q rest (a.put op.dst undef) (w.alloc (.cells c' t))) : wpList P ops Q (op :: rest) a (w.alloc (.cells c t)) :=
  wpList_plain hgd fun K hK => by
    unfold Oper.wp execOp
    simp only [ho, hx, hy, Sem.run_bind, run_storeAt_new (P := P) w t c c' hi hs h1, Result.andThen_ok]
    exact hK _ _ h
theorem zero_int (w : World) : (zeroValue 3).run Tryd.prog w = .ok (.int .i64 0) w := by kernel_rfl
theorem wpList_lookup_nw {w : World} {ops : Array Oper} {rest : List Oper} {o : Oper} {a : Act} {Q : Exit → Act → World → Prop} (hg : o.guard = none) (m x : Operand) (hop : o.op = Op.lookup 71 m x true)
    (gm n : Nat) (l : List (Nat × List UInt8)) (i : Nat) (hm : a.eval m = .map (some gm)) (hown : Nw w gm n l) (hx : a.eval x = .int .i64 (i : Int)) (wf : (Lit.int .i64 (i : Int)).wf = true)
    (hK : wpList Tryd.prog ops Q rest (a.put o.dst (.tuple #[.int .i64 (((lastw l i).getD 0 : Nat) : Int), .bool (lastw l i).isSome])) w) : wpList Tryd.prog ops Q (o :: rest) a w := by
  refine wpList_lookup_own_ok_int w hg m x _ hop 3 3 .i64 law_int Tryd.underlying71 Tryd.underlying3 (zero_int w) gm n (nw l) hm hown _ _ hx (keyOf_int_mk Tryd.underlying3 wf) ?_
  intro c hat hwc
  obtain ⟨h1, h2⟩ := nw_at l i
  rw [h2] at hat
  obtain rfl : (((lastw l i).getD 0 : Nat) : Int) = c := by injection hat with hat; injection hat
  rw [h1]
  exact hK
/-- What a sector has. -/
def Dsk.has (D : Dsk) (i : Nat) : List UInt8 := overw D.pend i (D.kept.getD i [])
theorem Dsk.Ok.kept_at {D : Dsk} (ok : D.Ok) {i : Nat} (hi : i < D.kept.length) : (D.kept.getD i []).length = 128 := by
  rw [List.getD_eq_getElem?_getD, List.getElem?_eq_getElem hi]
  exact ok.kept _ (List.getElem_mem hi)
theorem Dsk.Ok.has_len {D : Dsk} (ok : D.Ok) {i : Nat} (hi : i < D.kept.length) : (D.has i).length = 128 := overw_len (fun x hx => (ok.pend x hx).2) i (ok.kept_at hi)
theorem DkM.kept_range {w : World} {p gk gm : Nat} {vP : Value} {D : Dsk} (ok : D.Ok) (h : DkM w p D gk gm vP) {i : Nat} (hi : i < D.kept.length) : w.rangeAt gk (i * 128) (bv (D.kept.getD i [])) :=
  h.kept.elim fun r hr => hr.range _ _ fun j v hv => by
    have hj : j < 128 := by have := (List.getElem?_eq_some_iff.1 hv).1; rw [len_bv, ok.kept_at hi] at this; exact this
    rw [List.getElem?_append_left (by rw [len_flat bv 128 _ ok.lenk]; omega)]
    rw [flat_at bv 128 _ ok.lenk i j (D.kept.getD i []) (by rw [List.getD_eq_getElem?_getD, List.getElem?_eq_getElem hi]; rfl) hj]; exact hv
/-- A pending write's cells, where they lie. -/
theorem DkM.pend_range {w : World} {p gk gm : Nat} {vP : Value} {D : Dsk} (ok : D.Ok) (h : DkM w p D gk gm vP) {n : Nat} {x : Nat × List UInt8} (hn : D.pend[n]? = some x) : ∃ g cap, vP = .slice (some ⟨g, 0, none⟩) D.pend.length cap ∧ w.rangeAt g (n * 129) (wv x) := by
  have hlt := (List.getElem?_eq_some_iff.1 hn).1
  obtain ⟨h1, ⟨h2, h3⟩ | ⟨g, cap, cur, e, hB, hh, hc, hm, hs, hx⟩⟩ := h.pend
  · omega
  · refine ⟨g, cap, e, fun j v hv => ?_⟩
    have hx2 : x.2.length = 128 := (ok.pend x (List.mem_of_getElem? hn)).2
    have hj : j < 129 := by have := (List.getElem?_eq_some_iff.1 hv).1; rw [len_wv hx2] at this; exact this
    have hf := flat_at wv 129 _ ok.lenp n j x hn hj
    rw [hv, ← hx, List.getElem?_take] at hf
    split at hf
    · simpa [World.cell?, hh] using hf
    · cases hf
theorem wf_nat {n : Nat} (h : n ≤ 1000000) : (Lit.int .i64 (n : Int)).wf = true := by
  simp [Lit.wf, IntKind.min, IntKind.max, IntKind.signed, IntKind.bits]; omega
theorem read_err {p gk gm : Nat} {vP : Value} {D : Dsk} (ok : D.Ok) (i : Int) (w : World) (h : DkM w p D gk gm vP) (hbad : D.dead = true ∨ i < 0 ∨ (D.kept.length : Int) ≤ i) :
    Calls Tryd.prog 50 #[.pointer (some ⟨p, 0, none⟩), .int .i64 i] w fun e w' => e = .returned (.tuple #[.slice none 0 0, .int .i64 (if D.dead then 20 else 6)]) ∧ w = w' := by
  have HC := Lib.hid (checkSector_ok ok i w h)
  obtain ⟨z, hz⟩ : ∃ z : Int, z = (if D.dead then 20 else 6) := ⟨_, rfl⟩
  rw [show (if D.dead then (20 : Int) else if i < 0 ∨ (D.kept.length : Int) ≤ i then 6 else 0) = z from by
    rw [hz]; cases hd : D.dead <;> simp_all] at HC
  rw [← hz]
  have hz0 : ¬ z = 0 := by rw [hz]; cases D.dead <;> simp
  clear h hbad hz
  go_enter Tryd.func50, Tryd.ntmps50
  go_wp2_with (go_at_call 68; refine HC.out.mono ?_; rintro e w' ⟨rfl, rfl⟩)
  go_ret2
  exact ⟨rfl, rfl⟩
set_option maxRecDepth 100000 in
set_option maxHeartbeats 4000000 in
theorem read_ok {p gk gm : Nat} {vP : Value} {D : Dsk} (ok : D.Ok) (i : Nat) (hi : i < D.kept.length) (hd : D.dead = false) (w : World) (h : DkM w p D gk gm vP) :
    Calls Tryd.prog 50 #[.pointer (some ⟨p, 0, none⟩), .int .i64 i] w fun e w' => e = .returned (.tuple #[.slice (some ⟨w.heap.size, 0, none⟩) 128 128, .int .i64 0]) ∧ Blk w' w.heap.size 97 (bv (D.has i)) ∧ Turn (fun _ => False) w w' := by
  have HC := Lib.hid (checkSector_ok ok i w h)
  rw [hd, if_neg (by simp), if_neg (by omega)] at HC
  have HR := Lib.hid (h.kept_range ok hi)
  obtain ⟨hz1, hz2⟩ := zero_of_info (P := Tryd.prog) (t := 97) (v := .agg (bv zeros).toArray) (n := 128) (by kernel_rfl)
  have Hz1 := Lib.hid hz1
  have HI : Hid ((Tryd.prog.info? 97).map (·.size) = some (bv (D.kept.getD i [])).length) := Lib.hid (by rw [hz2, len_bv, ok.kept_at hi])
  have HI' : Hid ((Tryd.prog.info? 97).map (·.size) = some (bv (D.kept.getD i [])).toArray.size) := Lib.hid (by simpa using HI.out)
  have HS : Hid ((bv zeros).toArray.size = (bv (D.kept.getD i [])).toArray.size) := Lib.hid (by simp only [List.size_toArray, len_bv]; rw [ok.kept_at hi]; rfl)
  have H1 := Lib.hid (all_oneCell_toArray (one_bv (D.kept.getD i [])))
  have HW := Lib.hid (wf_nat (n := i) (by have := ok.most; omega))
  have HN := Lib.hid h.nw
  obtain ⟨ck, c0, c1, c2, _⟩ := h.cells
  have hi0 : (0 : Int) ≤ (i : Int) := Int.natCast_nonneg _
  have hi1 : (i : Int) < (D.kept.length : Int) := by omega
  have hlt := h.plt
  obtain ⟨Z, hZ⟩ : ∃ Z, (bv zeros).toArray = Z := ⟨_, rfl⟩
  rw [hZ] at Hz1 HS hz1
  clear hz2 hZ
  obtain ⟨s, hs⟩ : ∃ s, D.kept.getD i [] = s := ⟨_, rfl⟩
  rw [hs] at HR HI HI' HS H1
  have hhas : D.has i = overw D.pend i s := by unfold Dsk.has; rw [hs]
  have hsl : s.length = 128 := by rw [← hs]; exact ok.kept_at hi
  cases hl : lastw D.pend i with
  | none =>
    rw [hhas, lastw_none s hl]
    have HL := Lib.hid hl
    clear h hs hhas hl
    go_enter Tryd.func50, Tryd.ntmps50
    go_wp2_with (first
      | (go_at_call 68; refine HC.out.mono ?_; rintro e w' ⟨rfl, rfl⟩)
      | (refine wpList_load_mid rfl 97 _ rfl gk (i * 128) rfl (bv s) _ HR.out Tryd.underlying97 rfl HI.out ?_)
      | (refine wpList_store_new rfl 97 _ _ rfl Z (bv s).toArray rfl rfl HI'.out HS.out H1.out ?_)
      | (at_lookup; refine wpList_lookup_nw rfl _ _ rfl gm D.pend.length D.pend i rfl (HN.out.alloc _) rfl HW.out ?_; rw [HL.out]))
    go_ret2
    exact ⟨rfl, Blk.new w _ (bv s), (Turn.refl _ _).alloc _⟩
  | some n =>
    obtain ⟨x, hx, hx1, hx2⟩ := lastw_some s hl
    rw [hhas, ← hx2]
    obtain ⟨g, cap, hv, hpr⟩ := h.pend_range ok hx
    have hxl : x.2.length = 128 := (ok.pend x (List.mem_of_getElem? hx)).2
    have HP : Hid (w.rangeAt g (n * 129) (bv x.2)) := Lib.hid fun j v hv => hpr j v (by rw [wv, List.getElem?_append_left (List.getElem?_eq_some_iff.1 hv).1]; exact hv)
    have HPA : Hid (World.rangeAt (w.alloc (.cells (bv s).toArray 97)) g (n * 129) (bv x.2)) := Lib.hid (World.rangeAt_alloc HP.out _)
    have hgl : g < w.heap.size := by
      have := hpr 0 _ (List.getElem?_eq_getElem (by rw [len_wv hxl]; decide))
      exact cell_lt this
    have HX : Hid ((Tryd.prog.info? 97).map (·.size) = some (bv x.2).length) := Lib.hid (by rw [HI.out, len_bv, len_bv, hxl, hsl])
    have HX' : Hid ((Tryd.prog.info? 97).map (·.size) = some (bv x.2).toArray.size) := Lib.hid (by simpa using HX.out)
    have HXS : Hid ((bv s).toArray.size = (bv x.2).toArray.size) := Lib.hid (by simp [len_bv, hxl, hsl])
    have HX1 := Lib.hid (all_oneCell_toArray (one_bv x.2))
    have HL := Lib.hid hl
    have hn0 : (0 : Int) ≤ (n : Int) := Int.natCast_nonneg _
    have hn1 : (n : Int) < (D.pend.length : Int) := by have := (List.getElem?_eq_some_iff.1 hx).1; omega
    subst hv
    clear h hs hhas hl hx hx1 hx2 hpr hxl hsl
    go_enter Tryd.func50, Tryd.ntmps50
    go_wp2_with (first
      | (go_at_call 68; refine HC.out.mono ?_; rintro e w' ⟨rfl, rfl⟩)
      | (refine wpList_load_mid rfl 97 _ rfl gk (i * 128) rfl (bv s) _ HR.out Tryd.underlying97 rfl HI.out ?_)
      | (refine wpList_load_mid rfl 97 _ rfl g (n * 129) rfl (bv x.2) _ HPA.out Tryd.underlying97 rfl HX.out ?_)
      | (refine wpList_store_new rfl 97 _ _ rfl Z (bv s).toArray rfl rfl HI'.out HS.out H1.out ?_)
      | (refine wpList_store_new rfl 97 _ _ rfl (bv s).toArray (bv x.2).toArray rfl rfl HX'.out HXS.out HX1.out ?_)
      | (at_lookup; refine wpList_lookup_nw rfl _ _ rfl gm D.pend.length D.pend i rfl (HN.out.alloc _) rfl HW.out ?_; rw [HL.out]))
    go_ret2
    exact ⟨rfl, Blk.new w _ (bv x.2), (Turn.refl _ _).alloc _⟩
end Go.Proofs.YtmedljnbcpdoeaaDoor
