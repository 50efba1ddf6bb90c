/- Layer 14: the document's Vacuum. (mkSpD.py) -/
import Derived.Test.YtobddfpdijmgiaaSpN
import Derived.Test.YtobddfpdijmgiaaSpJ
import Derived.BigQuiet
namespace Go.Proofs.Ytobddfpdijmgiaa
open Go.RowKit
set_option linter.unusedVariables false
set_option linter.unusedSimpArgs false
set_option maxRecDepth 100000

theorem box3 {W : World} {q t : Nat} {u0 u1 u2 : Value} (h : Blk W q t [u0, u1, u2]) (x0 x1 x2 : Value) : Blk (((W.setCell ⟨q, 0, none⟩ x0).setCell ⟨q, 1, none⟩ x1).setCell ⟨q, 2, none⟩ x2) q t [x0, x1, x2] ∧ Turn (fun k => k = q) W (((W.setCell ⟨q, 0, none⟩ x0).setCell ⟨q, 1, none⟩ x1).setCell ⟨q, 2, none⟩ x2) ∧ (((W.setCell ⟨q, 0, none⟩ x0).setCell ⟨q, 1, none⟩ x1).setCell ⟨q, 2, none⟩ x2).cell? ⟨q, 0, none⟩ = some x0 ∧ (((W.setCell ⟨q, 0, none⟩ x0).setCell ⟨q, 1, none⟩ x1).setCell ⟨q, 2, none⟩ x2).cell? ⟨q, 1, none⟩ = some x1 ∧ (((W.setCell ⟨q, 0, none⟩ x0).setCell ⟨q, 1, none⟩ x1).setCell ⟨q, 2, none⟩ x2).cell? ⟨q, 2, none⟩ = some x2 := by
  have b : Blk (((W.setCell ⟨q, 0, none⟩ x0).setCell ⟨q, 1, none⟩ x1).setCell ⟨q, 2, none⟩ x2) q t [x0, x1, x2] := ((h.put 0 x0).put 1 x1).put 2 x2
  exact ⟨b, (((Turn.refl (fun k => k = q) W).setCell (p := ⟨q, 0, none⟩) (.inl rfl) x0).setCell (p := ⟨q, 1, none⟩) (.inl rfl) x1).setCell (p := ⟨q, 2, none⟩) (.inl rfl) x2, b.cell 0, b.cell 1, b.cell 2⟩
theorem cells3 {W : World} {q t : Nat} {u0 u1 u2 : Value} (h : Blk W q t [u0, u1, u2]) : W.cell? ⟨q, 0, none⟩ = some u0 ∧ W.cell? ⟨q, 1, none⟩ = some u1 ∧ W.cell? ⟨q, 2, none⟩ = some u2 ∧ W.frozen? ⟨q, 0, none⟩ = false ∧ W.frozen? ⟨q, 1, none⟩ = false ∧ W.frozen? ⟨q, 2, none⟩ = false := ⟨h.cell 0, h.cell 1, h.cell 2, h.free 0, h.free 1, h.free 2⟩
/-- Items whose versions were vacuumed; without versions it is none. (Of what stands where nothing is said.) -/
def vcm (L : List Itm) (mark : Int) : List Itm := (L.map (fun x => (⟨x.k, vac13 x.vs mark⟩ : Itm))).filter (fun x => !x.vs.isEmpty)
/-- A row of items that tells a list. -/
def IoL (B : Nat) (w : World) (v : Value) (L : List Itm) : Prop := ∃ M : List (Itm × Value), M.map (·.1) = L ∧ Io B w v M ∧ ∀ p ∈ M, 0 < p.1.vs.length → ∀ b, vb p.2 = some b → B ≤ b
theorem Io.far {B : Nat} {S : Nat → Prop} {w w' : World} {v : Value} {M : List (Itm × Value)} (h : Io B w v M) (ht : Turn S w w') (h1 : ∀ k, v.ownBlock = some k → ¬ S k) (h2 : ∀ p ∈ M, 0 < p.1.vs.length → ∀ b, vb p.2 = some b → ¬ S b) : Io B w' v M := by
  refine ⟨?_, fun p hp => ⟨(h.2 p hp).1.turn ht (h2 p hp), (h.2 p hp).2⟩⟩
  obtain ⟨hl, ⟨e, h0⟩ | ⟨g, cap, cur, e, hB, hh, hn, hc, hs, htk⟩⟩ := h.1
  · exact ⟨hl, .inl ⟨e, h0⟩⟩
  · exact ⟨hl, .inr ⟨g, cap, cur, e, hB, (ht.block g (Array.getElem?_eq_some_iff.1 hh).1 (h1 g (by rw [e]; rfl))).trans hh, hn, hc, hs, htk⟩⟩
theorem Io.base {B C : Nat} {w : World} {v : Value} {M : List (Itm × Value)} (h : Io C w v M) (hB : B ≤ C) : Io B w v M := by
  refine ⟨?_, h.2⟩
  obtain ⟨hl, ⟨e, h0⟩ | ⟨g, cap, cur, e, hC, hr⟩⟩ := h.1
  · exact ⟨hl, .inl ⟨e, h0⟩⟩
  · exact ⟨hl, .inr ⟨g, cap, cur, e, Nat.le_trans hB hC, hr⟩⟩
theorem vcm_next {M : List (Itm × Value)} {i : Nat} {p : Itm × Value} (h : M[i]? = some p) (mark : Int) : vcm ((M.take (i + 1)).map (·.1)) mark = vcm ((M.take i).map (·.1)) mark ++ (if (vac13 p.1.vs mark).isEmpty then [] else [⟨p.1.k, vac13 p.1.vs mark⟩]) := by
  rw [take_next h]
  unfold vcm
  simp only [List.map_append, List.map_cons, List.map_nil, List.filter_append]
  congr 1
  cases hv : (vac13 p.1.vs mark).isEmpty <;> simp [List.filter_cons, hv]
theorem vac_len (L : List Vn) (m : Int) : (vac13 L m).length ≤ L.length := by
  unfold vac13
  split
  · have key : ∀ L : List Vn, (vacf L m).length ≤ L.length := by
      intro L
      induction L with
      | nil => exact Nat.le_refl _
      | cons x L ih =>
        rw [vacf]
        split
        · split <;> simp
        · simp only [List.length_cons]; omega
    exact key L
  · simp
set_option maxHeartbeats 8000000 in
theorem refVacuum14 (M : List (Itm × Value)) (v : Value) (last mark m : Int) (w : World) (h : Ix w v M) (hb : M.length ≤ 100000) (hvb : ∀ p ∈ M, p.1.vs.length ≤ 100000) :
    Calls Try.prog 60 #[.agg #[v, .int .i64 last, .int .i64 mark], .int .i64 m] w fun e w' => ∃ v' e', e = .returned (.tuple #[.agg #[v', .int .i64 last, .int .i64 (if m < mark ∨ last < m then mark else m)], .int .i64 e']) ∧ e' = (if m < mark ∨ last < m then 2 else 0) ∧ (if m < mark ∨ last < m then v' = v else IoL w.heap.size w' v' (vcm (M.map (·.1)) m)) ∧ Turn (fun _ => False) w w' := by
  obtain ⟨A, c, rfl, hl, hr, hw⟩ := h
  obtain ⟨n, hn⟩ : ∃ n, M.length = n := ⟨_, rfl⟩
  have HN := Lib.hid hn
  have HR := Lib.hid hr
  have HW := Lib.hid hw
  have HVB := Lib.hid hvb
  rw [hn] at hl hb ⊢
  obtain ⟨W1, hW1⟩ : ∃ W, w.alloc (.cells #[.slice A n c, .int .i64 last, .int .i64 mark] 32) = W := ⟨_, rfl⟩
  obtain ⟨W2, hW2⟩ : ∃ W, W1.alloc (.cells #[.slice none 0 0, .int .i64 0, .int .i64 0] 32) = W := ⟨_, rfl⟩
  have TW1 : Hid (Turn (fun _ => False) w W1) := Lib.hid (hW1 ▸ (Turn.refl _ _).alloc _)
  have TW : Hid (Turn (fun _ => False) w W2) := Lib.hid (hW2 ▸ TW1.out.alloc _)
  have BX : Hid (Blk W2 w.heap.size 32 [.slice A n c, .int .i64 last, .int .i64 mark]) := Lib.hid (hW2 ▸ (show Blk W1 w.heap.size 32 [.slice A n c, .int .i64 last, .int .i64 mark] from hW1 ▸ Blk.new _ _ _).alloc _)
  have BC : Hid (Blk W2 W1.heap.size 32 [.slice none 0 0, .int .i64 0, .int .i64 0]) := Lib.hid (hW2 ▸ Blk.new _ _ _)
  have h12 : w.heap.size < W1.heap.size := by rw [← hW1]; simp
  clear hn hr hw hvb
  by_cases hbad : m < mark ∨ last < m
  · simp only [if_pos hbad]
    obtain ⟨x0, x1, x2, _, _, _⟩ := cells3 BX.out
    obtain ⟨z0, z1, z2, g0, g1, g2⟩ := cells3 BC.out
    have HF := Lib.hid (box3 BC.out (.slice A n c) (.int .i64 last) (.int .i64 mark))
    by_cases hlo : m < mark
    · go_enter Try.func60, Try.ntmps60
      go_wp2_with fail
      obtain ⟨CZ, TS, r0, r1, r2⟩ := HF.out
      exact bodyPost_ret (v := .tuple #[.agg #[.slice A n c, .int .i64 last, .int .i64 mark], .int .i64 2]) (by simp [results, Try.results60, go_sem, r0, r1, r2]) rfl ⟨_, _, rfl, rfl, rfl, TW.out.trans_new TS (fun k hk e => by omega)⟩
    · have hhi : last < m := by rcases hbad with h | h; exact absurd h hlo; exact h
      go_enter Try.func60, Try.ntmps60
      go_wp2_with fail
      obtain ⟨CZ, TS, r0, r1, r2⟩ := HF.out
      exact bodyPost_ret (v := .tuple #[.agg #[.slice A n c, .int .i64 last, .int .i64 mark], .int .i64 2]) (by simp [results, Try.results60, go_sem, r0, r1, r2]) rfl ⟨_, _, rfl, rfl, rfl, TW.out.trans_new TS (fun k hk e => by omega)⟩
  · simp only [if_neg hbad]
    have hlo : ¬ m < mark := fun h => hbad (.inl h)
    have hhi : ¬ last < m := fun h => hbad (.inr h)
    clear hbad
    obtain ⟨x0, x1, x2, _, _, _⟩ := cells3 BX.out
    go_enter Try.func60, Try.ntmps60
    go_wp2_with fail
    clear hW1 hW2 x0 x1 x2
    go_loopw [6, 7, 8] (fun v6 v7 v8 wr => ∃ (i : Nat) (F : List (Itm × Value)), i ≤ n ∧ v7 = .int .i64 i ∧ Hid (F.map (·.1) = vcm ((M.take i).map (·.1)) m) ∧ Hid (F.length ≤ i) ∧ Io W2.heap.size wr v6 F ∧ Hid (∀ p ∈ F, 0 < p.1.vs.length → ∀ b, vb p.2 = some b → W2.heap.size ≤ b) ∧ Turn (fun _ => False) W2 wr) (fun _ v7 _ _ => n - (intOf v7).toNat)
    case atStart => exact ⟨0, [], Nat.zero_le _, rfl, Lib.hid rfl, Lib.hid (Nat.le_refl _), io_nil _ _, Lib.hid (fun p hp => by cases hp), Turn.refl _ _⟩
    case round =>
      obtain ⟨i, F, hi, rfl, HST, HFB, ho, HAP, ht⟩ := hrel
      obtain ⟨wx, rfl⟩ : ∃ W, W = wr := ⟨_, rfl⟩
      obtain ⟨AF, cF, rfl⟩ := own_slice_ ho.1
      obtain ⟨f, hf⟩ : ∃ f, F.length = f := ⟨_, rfl⟩
      have HFL := Lib.hid hf
      have TX := Lib.hid ht
      have TT := Lib.hid (TW.out.trans ht)
      obtain ⟨x0, x1, x2, _, _, _⟩ := cells3 (BX.out.turn ht (fun h => h))
      rw [hf] at ho HFB ⊢
      have HO := Lib.hid ho
      have hfb := HFB.out
      clear ho ht hf
      by_cases hlt : i < n
      · have hl1 : (i : Int) < (n : Int) := by omega
        have hl0 : (0 : Int) ≤ (i : Int) := by omega
        have hq := wrap_of ((i : Int) + 1) (by omega) (by omega)
        obtain ⟨p, hp⟩ : ∃ p, M[i]? = some p := ⟨_, List.getElem?_eq_getElem (by rw [HN.out]; exact hlt)⟩
        have HNXT := Lib.hid (vcm_next hp m)
        obtain ⟨b, o, rfl, hb1, hc⟩ := HR.out.item (by rw [HN.out]; omega)
        have HCW := Lib.hid (fun X (hX : Turn (fun _ => False) w X) => hc X hX i p hp)
        have hv := HW.out p (List.mem_of_getElem? hp)
        have hvl := HVB.out p (List.mem_of_getElem? hp)
        have HVC := Lib.hid (fun X (hX : Turn (fun _ => False) w X) => refVacuum13 p.1.vs p.2 m X (hv.still hX) hvl)
        have hvn := vac_len p.1.vs m
        obtain ⟨⟨pk, pvs⟩, pv⟩ := p
        simp only at hv HVC HCW HNXT hvn hvl
        obtain ⟨AV, cV, e⟩ := hv.len
        subst e
        obtain ⟨mp, hmp⟩ : ∃ m, pvs.length = m := ⟨_, rfl⟩
        rw [hmp] at HCW HVC hvn hvl
        obtain ⟨NV, hNV⟩ : ∃ q, vac13 pvs m = q := ⟨_, rfl⟩
        rw [hNV] at HVC HNXT hvn
        obtain ⟨c0, c1⟩ := HCW.out wx TT.out
        clear hp hb1 hc hv hmp hNV
        go_wp2_with fail
        refine (HVC.out _ TT.out).mono ?_
        rintro e w2 ⟨v2, rfl, hvo, ht2⟩
        have hv2 := hvo.vr (by omega)
        obtain ⟨AV2, cV2, rfl⟩ := own_slice_ hvo
        have T2 := Lib.hid (TT.out.trans ht2)
        have X2 := Lib.hid (TX.out.trans ht2)
        have O2 := Lib.hid (HO.out.still ht2)
        obtain ⟨d0, d1⟩ := HCW.out w2 T2.out
        obtain ⟨y0, y1, y2, _, _, _⟩ := cells3 (BX.out.turn X2.out (fun h => h))
        have hsx := HO.out
        have HNF0 : Hid (VrF (fun k => (Value.slice AF f cF).ownBlock = some k) w2 (.slice AV2 NV.length cV2) NV) := Lib.hid ⟨hv2, fun hp b hb hk => by
          have h1 := (own_ge9 HO.out.1 b hk).2
          have h2 : (Value.slice AV2 NV.length cV2).ownBlock = some b ∨ True := .inr trivial
          obtain ⟨hl5, ⟨e5, h5⟩ | ⟨g5, cap5, cur5, e5, hB5, _⟩⟩ := hvo
          · omega
          · injection e5 with e6
            subst e6
            unfold vb at hb
            simp at hb
            omega⟩
        have HNB : Hid (0 < NV.length → ∀ b, vb (.slice AV2 NV.length cV2) = some b → W2.heap.size ≤ b) := Lib.hid (fun hp b hb => by
          obtain ⟨hl5, ⟨e5, h5⟩ | ⟨g5, cap5, cur5, e5, hB5, _⟩⟩ := hvo
          · omega
          · injection e5 with e6
            subst e6
            unfold vb at hb
            simp at hb
            have := TX.out.size
            have := BC.out.lt
            omega)
        have HNFW0 : Hid (∀ X, Turn (fun _ => False) w2 X → VrF (fun k => (Value.slice AF f cF).ownBlock = some k) X (.slice AV2 NV.length cV2) NV) := Lib.hid (fun X hX => ⟨HNF0.out.1.still hX, HNF0.out.2⟩)
        obtain ⟨mv, hmv⟩ : ∃ q, NV.length = q := ⟨_, rfl⟩
        have HMV := Lib.hid hmv
        have HNFW := HNFW0
        rw [hmv] at HNFW HNB hvn ⊢
        clear ht2 hvo hv2 c0 c1 x0 x1 x2 hsx hmv
        by_cases hz : mv = 0
        · subst hz
          have HE : Hid (NV = []) := Lib.hid (List.eq_nil_of_length_eq_zero HMV.out)
          have HST2 : Hid (F.map (·.1) = vcm ((M.take (i + 1)).map (·.1)) m) := Lib.hid (by rw [HNXT.out, HE.out, HST.out]; simp)
          go_wp2_with fail
          go_roundw
          case rel => exact ⟨i + 1, F, by omega, by simp [hq], HST2, Lib.hid (by have := HFL.out; omega), O2.out, HAP, X2.out⟩
          case measure => simp [intOf, hq]; omega
        · have hz0 : (0 : Int) < (mv : Int) := by omega
          have hz1 : 0 < mv := by omega
          have hzd : decide (0 < mv) = true := by simpa using hz1
          have HST2 : Hid ((F ++ [((⟨pk, NV⟩ : Itm), Value.slice AV2 mv cV2)]).map (·.1) = vcm ((M.take (i + 1)).map (·.1)) m) := Lib.hid (by
            rw [HNXT.out, ← HST.out, List.map_append]
            cases NV with
            | nil => have := HMV.out; simp at this; omega
            | cons a l => rfl)
          have HAP2 : Hid (∀ p ∈ F ++ [((⟨pk, NV⟩ : Itm), Value.slice AV2 mv cV2)], 0 < p.1.vs.length → ∀ b, vb p.2 = some b → W2.heap.size ≤ b) := Lib.hid (fun p hp => by
            rcases List.mem_append.1 hp with hp | hp
            · exact HAP.out p hp
            · simp at hp; subst hp; simp only; rw [HMV.out]; exact HNB.out)
          go_wp2_with (at_builtin; refine wpList_app1i rfl _ _ rfl W2.heap.size (.slice AF f cF) F f w2.heap.size ⟨pk, NV⟩ (.slice AV2 mv cV2) rfl HFL.out (O2.out.still ((Turn.refl _ _).alloc _)) rfl (Blk.new w2 25 [.string pk, (.slice AV2 mv cV2)]) (HNFW.out _ ((Turn.refl _ _).alloc _)) (by omega) (by have := X2.out.size; rw [World.size_alloc]; omega) ?_; intro A7 c7 w7 ho7 ht7; have O7 := Lib.hid ho7; have T7 := Lib.hid ((X2.out.alloc (.cells #[.string pk, (.slice AV2 mv cV2)] 25)).trans_new ht7 (fun k hk h => by have := (own_ge9 O2.out.1 k h).1; omega)); clear ho7 ht7)
          go_roundw
          case rel => exact ⟨i + 1, _, by omega, by simp [hq], HST2, Lib.hid (by rw [List.length_append]; simp only [List.length_singleton]; have := HFL.out; omega), O7.out, HAP2, T7.out⟩
          case measure => simp [intOf, hq]; omega
      · obtain rfl : i = n := by omega
        have HALL : Hid (F.map (·.1) = vcm (M.map (·.1)) m) := Lib.hid (by rw [HST.out, ← HN.out, List.take_length])
        have hbc := BC.out.turn TX.out (fun h => h)
        obtain ⟨z0, z1, z2, g0, g1, g2⟩ := cells3 hbc
        have HF := Lib.hid (box3 hbc (.slice AF f cF) (.int .i64 last) (.int .i64 m))
        clear hbc
        go_wp2_with fail
        obtain ⟨CZ, TS, r0, r1, r2⟩ := HF.out
        have hio : IoL w.heap.size _ (.slice AF f cF) (vcm (M.map (·.1)) m) := ⟨F, HALL.out, (HO.out.far TS (fun k hk e => by have := (own_ge9 HO.out.1 k hk).1; have := BC.out.lt; omega) (fun p hp h b hb e => by have := HAP.out p hp h b hb; have := BC.out.lt; omega)).base TW.out.size, fun p hp h b hb => Nat.le_trans TW.out.size (HAP.out p hp h b hb)⟩
        exact bodyPost_ret (v := .tuple #[.agg #[.slice AF f cF, .int .i64 last, .int .i64 m], .int .i64 0]) (by simp [results, Try.results60, go_sem, r0, r1, r2]) rfl ⟨_, _, rfl, rfl, hio, TT.out.trans_new TS (fun k hk e => by omega)⟩
end Go.Proofs.Ytobddfpdijmgiaa
/- Layer 14: changes; the document's MayChange. -/
namespace Go.Proofs.Ytobddfpdijmgiaa
open Go.RowKit
set_option linter.unusedVariables false
set_option linter.unusedSimpArgs false
set_option maxRecDepth 100000

structure Cg where
  k : ByteArray
  v : ByteArray
  d : Bool
def cc (x : Cg) : List Value := [.string x.k, .string x.v, .bool x.d]
theorem cc_len (x : Cg) : (cc x).length = 3 := rfl
/-- Changes that a slice holds. -/
def Cx (w : World) (v : Value) (L : List Cg) : Prop := ∃ A c, v = .slice A L.length c ∧ L.length ≤ 9223372036854775807 ∧ Rc w A (L.flatMap cc)
theorem Cx.still {w w' : World} {v : Value} {L : List Cg} (h : Cx w v L) (ht : Turn (fun _ => False) w w') : Cx w' v L := by
  obtain ⟨A, c, e, hl, hr⟩ := h
  exact ⟨A, c, e, hl, hr.still ht⟩
theorem Rc.chg {w : World} {A : Option Addr} {L : List Cg} (h : Rc w A (L.flatMap cc)) (hp : 0 < L.length) : ∃ b o, A = some ⟨b, o, none⟩ ∧ b < w.heap.size ∧ ∀ X, Turn (fun _ => False) w X → ∀ j x, L[j]? = some x → X.cell? ⟨b, o + j * 3, none⟩ = some (.string x.k) ∧ X.cell? ⟨b, o + j * 3 + 1, none⟩ = some (.string x.v) ∧ X.cell? ⟨b, o + j * 3 + 2, none⟩ = some (.bool x.d) := by
  obtain ⟨b, o, e, hb, hc⟩ := h (by rw [flat_len cc_len]; omega)
  refine ⟨b, o, e, hb, fun X hX j p hj => ?_⟩
  have hk : ∀ j, X.cell? ⟨b, j, none⟩ = w.cell? ⟨b, j, none⟩ := fun j => World.cell?_of_block (w := w) (a := ⟨b, j, none⟩) (hX.block b hb (fun h => h))
  rw [hk, hk, hk, Nat.add_assoc, Nat.add_assoc]
  exact ⟨hc _ _ (flat_at cc_len L j 0 p hj (by decide)), hc _ _ (flat_at cc_len L j 1 p hj (by decide)), hc _ _ (flat_at cc_len L j 2 p hj (by decide))⟩
/-- A change by itself may be done. -/
def ok1 (x : Cg) : Bool := decide (x.k.size ≤ 128) && (decide (x.v.size ≤ 200) && (!x.d || x.v.toList.isEmpty))
def okc (L : List Cg) (i : Nat) : Bool := match L[i]? with
  | none => false
  | some x => ok1 x && (L.take i).all (fun y => !(y.k.toList == x.k.toList))
def mch (L : List Cg) : Bool := (List.range L.length).all (okc L)
theorem mch_false {L : List Cg} {i : Nat} (hi : i < L.length) (h : okc L i = false) : mch L = false := by
  unfold mch
  rw [List.all_eq_false]
  exact ⟨i, List.mem_range.2 hi, by rw [h]; decide⟩
theorem mch_true {L : List Cg} (h : ∀ j, j < L.length → okc L j = true) : mch L = true := by
  unfold mch
  rw [List.all_eq_true]
  exact fun j hj => h j (List.mem_range.1 hj)
theorem okc_at {L : List Cg} {i : Nat} {x : Cg} (h : L[i]? = some x) : okc L i = (ok1 x && (L.take i).all (fun y => !(y.k.toList == x.k.toList))) := by unfold okc; rw [h]
theorem key_ok1 (x : Cg) : ((128 : Int) < (x.k.size : Int) ∧ ok1 x = false) ∨ ((x.k.size : Int) ≤ 128 ∧ (200 : Int) < (x.v.size : Int) ∧ ok1 x = false) ∨ ((x.k.size : Int) ≤ 128 ∧ (x.v.size : Int) ≤ 200 ∧ x.d = false ∧ ok1 x = true) ∨ ((x.k.size : Int) ≤ 128 ∧ (x.v.size : Int) ≤ 200 ∧ x.d = true ∧ x.v.toList.isEmpty = true ∧ ok1 x = true) ∨ ((x.k.size : Int) ≤ 128 ∧ (x.v.size : Int) ≤ 200 ∧ x.d = true ∧ x.v.toList.isEmpty = false ∧ ok1 x = false) := by
  unfold ok1
  by_cases h1 : x.k.size ≤ 128
  · by_cases h2 : x.v.size ≤ 200
    · cases h3 : x.d <;> cases h4 : x.v.toList.isEmpty <;> simp [h1, h2] <;> omega
    · simp [h1, h2]; omega
  · simp [h1]; omega
theorem take_all_next {L : List Cg} {j : Nat} {y : Cg} {p : Cg → Bool} (h : L[j]? = some y) (ha : (L.take j).all p = true) (hp : p y = true) : (L.take (j + 1)).all p = true := by
  rw [List.take_add_one, h, List.all_append, ha]; simp [hp]
set_option maxHeartbeats 8000000 in
theorem refMay14 (L : List Cg) (v : Value) (w : World) (h : Cx w v L) :
    Calls Try.prog 111 #[v] w fun e w' => e = .returned (.bool (mch L)) ∧ Turn (fun _ => False) w w' := by
  obtain ⟨A, c, rfl, hl, hr⟩ := h
  obtain ⟨n, hn⟩ : ∃ n, L.length = n := ⟨_, rfl⟩
  have HN := Lib.hid hn
  have HR := Lib.hid hr
  rw [hn] at hl ⊢
  obtain ⟨R, hR⟩ : ∃ R, mch L = R := ⟨_, rfl⟩
  have HRR := Lib.hid hR
  rw [hR]
  clear hn hr hR
  go_enter Try.func111, Try.ntmps111
  go_wp2_with fail
  go_loopw [3, 4] (fun v3 _ wr => ∃ i : Nat, i ≤ n ∧ v3 = .int .i64 i ∧ Hid (∀ j, j < i → okc L j = true) ∧ Turn (fun _ => False) w wr) (fun v3 _ _ => n - (intOf v3).toNat)
  case atStart => exact ⟨0, Nat.zero_le _, rfl, Lib.hid (fun j hj => absurd hj (by omega)), Turn.refl _ _⟩
  case round =>
    obtain ⟨i, hi, rfl, HOK, ht⟩ := hrel
    obtain ⟨wx, rfl⟩ : ∃ W, W = wr := ⟨_, rfl⟩
    have TT := Lib.hid ht
    clear ht
    by_cases hlt : i < n
    · have hl1 : (i : Int) < (n : Int) := by omega
      have hl0 : (0 : Int) ≤ (i : Int) := by omega
      have hq := wrap_of ((i : Int) + 1) (by omega) (by omega)
      obtain ⟨x, hx⟩ : ∃ x, L[i]? = some x := ⟨_, List.getElem?_eq_getElem (by rw [HN.out]; exact hlt)⟩
      have HX := Lib.hid hx
      obtain ⟨b, o, rfl, hb, hc⟩ := HR.out.chg (by rw [HN.out]; omega)
      have HC := Lib.hid (fun X (hX : Turn (fun _ => False) w X) => hc X hX)
      have HCW := Lib.hid (fun X (hX : Turn (fun _ => False) w X) => hc X hX i x hx)
      have hbad : Hid (ok1 x = false → R = false) := Lib.hid (fun h => by rw [← HRR.out]; exact mch_false (by rw [HN.out]; exact hlt) (by rw [okc_at HX.out, h]; rfl))
      have hky := key_ok1 x
      obtain ⟨xk, xv, xd⟩ := x
      simp only at hky HCW
      obtain ⟨c0, c1, c2⟩ := HCW.out wx TT.out
      clear hx hb hc
      obtain ⟨r, hr1⟩ : ∃ r, ok1 ⟨xk, xv, xd⟩ = r := ⟨_, rfl⟩
      have HOR := Lib.hid hr1
      rw [hr1] at hky hbad
      clear hr1
      have h1' : (128 : Int) < (xk.size : Int) → decide ((128 : Int) < (xk.size : Int)) = true := fun h => by simpa using h
      rcases hky with ⟨h1, rfl⟩ | ⟨h1, h2, rfl⟩ | ⟨h1, h2, rfl, rfl⟩ | ⟨h1, h2, rfl, h4, rfl⟩ | ⟨h1, h2, rfl, h4, rfl⟩
      case inl =>
        have HB := Lib.hid (hbad.out rfl)
        go_wp2_with fail
        go_ret
        exact ⟨by rw [HB.out]; rfl, TT.out⟩
      case inr.inl =>
        have HB := Lib.hid (hbad.out rfl)
        go_wp2_with fail
        go_ret
        exact ⟨by rw [HB.out]; rfl, TT.out⟩
      case inr.inr.inr.inr =>
        have HB := Lib.hid (hbad.out rfl)
        have h5 : (xv.toList == []) = false := by cases hh : xv.toList <;> simp_all
        go_wp2_with fail
        go_ret
        exact ⟨by rw [HB.out]; rfl, TT.out⟩
      all_goals
        clear hbad h1'
        go_wp2_with fail
        go_loopw [4] (fun v4 wy => ∃ j : Nat, j ≤ i ∧ v4 = .int .i64 j ∧ Hid ((L.take j).all (fun y => !(y.k.toList == xk.toList)) = true) ∧ Turn (fun _ => False) w wy) (fun v4 _ => i - (intOf v4).toNat)
        case atStart => exact ⟨0, Nat.zero_le _, rfl, Lib.hid rfl, TT.out⟩
        case round =>
          obtain ⟨j, hj, rfl, HAL, hty⟩ := hrel
          obtain ⟨wz, rfl⟩ : ∃ W, W = wr := ⟨_, rfl⟩
          have TZ := Lib.hid hty
          obtain ⟨e0, e1, e2⟩ := HCW.out wz hty
          clear hty
          by_cases hji : j < i
          · have hm1 : (j : Int) < (i : Int) := by omega
            have hm0 : (0 : Int) ≤ (j : Int) := by omega
            have hm2 : (j : Int) < (n : Int) := by omega
            have hqj := wrap_of ((j : Int) + 1) (by omega) (by omega)
            obtain ⟨y, hy⟩ : ∃ y, L[j]? = some y := ⟨_, List.getElem?_eq_getElem (by rw [HN.out]; omega)⟩
            have HY := Lib.hid hy
            obtain ⟨f0, f1, f2⟩ := HC.out wz TZ.out j y hy
            obtain ⟨yk, yv, yd⟩ := y
            simp only at f0 f1 f2
            clear hy
            cases hke : (yk.toList == xk.toList) with
            | true =>
              have HB : Hid (R = false) := Lib.hid (by
                rw [← HRR.out]
                refine mch_false (i := i) (by rw [HN.out]; exact hlt) ?_
                rw [okc_at HX.out, Bool.and_eq_false_iff]
                refine .inr (List.all_eq_false.2 ⟨⟨yk, yv, yd⟩, List.mem_of_getElem? (i := j) (by rw [List.getElem?_take, if_pos hji]; exact HY.out), ?_⟩)
                simp only at hke ⊢
                rw [hke]; decide)
              go_wp2_with fail
              go_quiet (fail)
              go_wp2_with fail
              go_ret
              exact ⟨by rw [HB.out]; rfl, by first | exact TZ.out.drewN _ | exact TZ.out⟩
            | false =>
              have HA2 : Hid ((L.take (j + 1)).all (fun y => !(y.k.toList == xk.toList)) = true) := Lib.hid (by
                rw [List.take_add_one, HY.out, List.all_append, HAL.out]
                simp [hke])
              go_wp2_with fail
              go_quiet (fail)
              go_wp2_with fail
              go_roundw
              case rel => exact ⟨j + 1, by omega, by simp [hqj], HA2, by first | exact TZ.out.drewN _ | exact TZ.out⟩
              case measure => simp [intOf, hqj]; omega
          · obtain rfl : j = i := by omega
            have HNX : Hid (∀ q, q < j + 1 → okc L q = true) := Lib.hid (fun q hq2 => by
              rcases Nat.lt_or_ge q j with h7 | h7
              · exact HOK.out q h7
              · have e : q = j := (by omega)
                subst e
                rw [okc_at HX.out, HOR.out, HAL.out]; rfl)
            go_wp2_with fail
            go_roundw
            case rel => exact ⟨j + 1, by omega, by simp [hq], HNX, TZ.out⟩
            case measure => simp [intOf, hq]; omega
    · obtain rfl : i = n := by omega
      have HB : Hid (R = true) := Lib.hid (by rw [← HRR.out]; exact mch_true (fun j hj => HOK.out j (by rw [← HN.out]; exact hj)))
      go_wp2_with fail
      go_ret
      exact ⟨by rw [HB.out]; rfl, TT.out⟩
end Go.Proofs.Ytobddfpdijmgiaa
/- Layer 14: the document's Apply. (mkSpG.py) -/
namespace Go.Proofs.Ytobddfpdijmgiaa
open Go.RowKit
set_option linter.unusedVariables false
set_option linter.unusedSimpArgs false
set_option maxRecDepth 100000

def wstI (z : Itm) (st : List Itm × Bool) (x : Itm) : List Itm × Bool :=
  if (x.k.toList == z.k.toList) then (if !st.2 && !lt14 x.k z.k then (st.1 ++ [z], true) else st)
  else ((if !st.2 && !lt14 x.k z.k then st.1 ++ [z] else st.1) ++ [x], if !st.2 && !lt14 x.k z.k then true else st.2)
/-- Items with other versions of a key; without versions it is none. -/
def wthI (L : List Itm) (z : Itm) : List Itm :=
  if (L.foldl (wstI z) ([], z.vs.isEmpty)).2 then (L.foldl (wstI z) ([], z.vs.isEmpty)).1 else (L.foldl (wstI z) ([], z.vs.isEmpty)).1 ++ [z]
theorem wst_map (z : Itm × Value) (st : List (Itm × Value) × Bool) (x : Itm × Value) : ((wst z st x).1.map (·.1), (wst z st x).2) = wstI z.1 (st.1.map (·.1), st.2) x.1 := by
  unfold wst wstI
  cases h1 : (x.1.k.toList == z.1.k.toList) <;> cases h2 : (!st.2 && !lt14 x.1.k z.1.k) <;> simp
theorem wfold_map (z : Itm × Value) : ∀ (M : List (Itm × Value)) (st : List (Itm × Value) × Bool), ((M.foldl (wst z) st).1.map (·.1), (M.foldl (wst z) st).2) = (M.map (·.1)).foldl (wstI z.1) (st.1.map (·.1), st.2)
  | [], st => rfl
  | x :: M, st => by
    rw [List.foldl_cons, List.map_cons, List.foldl_cons, wfold_map z M, ← wst_map]
theorem wth_map (M : List (Itm × Value)) (z : Itm × Value) : (wth M z).map (·.1) = wthI (M.map (·.1)) z.1 := by
  have h := wfold_map z M ([], z.1.vs.isEmpty)
  unfold wth wthI
  simp only [List.map_nil] at h
  rw [← h]
  simp only
  split <;> simp
theorem wst_len (z : Itm × Value) (st : List (Itm × Value) × Bool) (x : Itm × Value) : (wst z st x).1.length ≤ st.1.length + (if (wst z st x).2 = st.2 then 1 else 2) := by
  unfold wst
  cases h1 : (x.1.k.toList == z.1.k.toList) <;> cases h2 : st.2 <;> cases h3 : lt14 x.1.k z.1.k <;> simp [h2, h3]
theorem wfold_len (z : Itm × Value) : ∀ (M : List (Itm × Value)) (st : List (Itm × Value) × Bool), (M.foldl (wst z) st).1.length + (if (M.foldl (wst z) st).2 then 0 else 1) ≤ st.1.length + M.length + (if st.2 then 0 else 1) ∧ (st.2 = true → (M.foldl (wst z) st).2 = true)
  | [], st => ⟨by obtain ⟨a, b⟩ := st; cases b <;> simp, fun h => h⟩
  | x :: M, st => by
    rw [List.foldl_cons]
    obtain ⟨h1, h2⟩ := wfold_len z M (wst z st x)
    have h3 := wst_len z st x
    have h4 : st.2 = true → (wst z st x).2 = true := fun h => by cases h1 : (x.1.k.toList == z.1.k.toList) <;> simp [wst, h, h1]
    refine ⟨?_, fun h => h2 (h4 h)⟩
    rw [List.length_cons]
    cases h5 : st.2 with
    | true =>
      rw [h4 h5] at h1 h3
      rw [h5] at h3
      simp at h1 h3 ⊢
      omega
    | false =>
      rw [h5] at h3
      cases h6 : (wst z st x).2 <;> rw [h6] at h1 h3 <;> simp at h1 h3 ⊢ <;> omega
theorem wth_len (M : List (Itm × Value)) (z : Itm × Value) : (wth M z).length ≤ M.length + 1 := by
  have h := (wfold_len z M ([], z.1.vs.isEmpty)).1
  unfold wth
  simp only [List.length_nil, Nat.zero_add] at h
  split
  · rename_i h1
    rw [h1] at h
    cases hz : z.1.vs.isEmpty <;> rw [hz] at h <;> simp at h <;> omega
  · rename_i h1
    rw [if_neg h1] at h
    rw [List.length_append]
    cases hz : z.1.vs.isEmpty <;> rw [hz] at h <;> simp at h ⊢ <;> omega
def fndI (L : List Itm) (key : ByteArray) : List Vn := match L.find? (fun p => p.k.toList == key.toList) with
  | some p => p.vs
  | none => []
theorem fndk_map (M : List (Itm × Value)) (key : ByteArray) : fndk M key = fndI (M.map (·.1)) key := by
  unfold fndk fndI
  rw [List.find?_map]
  cases h : M.find? ((fun p : Itm => p.k.toList == key.toList) ∘ (·.1)) with
  | none => rw [show M.find? (fun p => p.1.k.toList == key.toList) = none from h]; rfl
  | some p => rw [show M.find? (fun p => p.1.k.toList == key.toList) = some p from h]; rfl
/-- Items behind changes, whose versions are found among elder items. -/
def apl (I0 : List Itm) (t : Int) (L : List Cg) : List Itm := L.foldl (fun I x => wthI I ⟨x.k, (add13 (fndI I0 x.k) ⟨t, x.v, x.d⟩).1⟩) I0
theorem fnd_bound {M : List (Itm × Value)} {N : Nat} (h : ∀ p ∈ M, p.1.vs.length ≤ N) (key : ByteArray) : (fndk M key).length ≤ N := by
  unfold fndk
  cases hf : M.find? (fun p => p.1.k.toList == key.toList) with
  | none => simp
  | some p => exact h p (List.mem_of_find?_eq_some hf)
theorem mem_wst {z : Itm × Value} {st : List (Itm × Value) × Bool} {x p : Itm × Value} (h : p ∈ (wst z st x).1) : p ∈ st.1 ∨ p = z ∨ p = x := by
  unfold wst at h
  cases h1 : (x.1.k.toList == z.1.k.toList) <;> cases h2 : (!st.2 && !lt14 x.1.k z.1.k) <;> rw [h1, h2] at h <;> simp only [if_true, Bool.false_eq_true, if_false, List.mem_append, List.mem_singleton] at h
  · rcases h with h | h
    · exact .inl h
    · exact .inr (.inr h)
  · rcases h with (h | h) | h
    · exact .inl h
    · exact .inr (.inl h)
    · exact .inr (.inr h)
  · exact .inl h
  · rcases h with h | h
    · exact .inl h
    · exact .inr (.inl h)
theorem mem_wfold (z : Itm × Value) : ∀ (M : List (Itm × Value)) (st : List (Itm × Value) × Bool) (p : Itm × Value), p ∈ (M.foldl (wst z) st).1 → p ∈ st.1 ∨ p = z ∨ p ∈ M
  | [], st, p, h => .inl h
  | x :: M, st, p, h => by
    rw [List.foldl_cons] at h
    rcases mem_wfold z M _ p h with h | h | h
    · rcases mem_wst h with h | h | h
      · exact .inl h
      · exact .inr (.inl h)
      · exact .inr (.inr (by simp [h]))
    · exact .inr (.inl h)
    · exact .inr (.inr (by simp [h]))
theorem mem_wth {M : List (Itm × Value)} {z p : Itm × Value} (h : p ∈ wth M z) : p = z ∨ p ∈ M := by
  unfold wth at h
  split at h
  · rcases mem_wfold z M _ p h with h | h
    · cases h
    · exact h
  · rcases List.mem_append.1 h with h | h
    · rcases mem_wfold z M _ p h with h | h
      · cases h
      · exact h
    · exact .inl (by simpa using h)
end Go.Proofs.Ytobddfpdijmgiaa
