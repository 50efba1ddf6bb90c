/- Layer 14: the iterator over a range's keys. -/
import Derived.Test.YtjkfgbmlhglnfaaSpN
import Derived.Test.YtjkfgbmlhglnfaaRng
import Derived.Scope
import Derived.WalkMore
import Derived.Deep.RegionHeld3
import Derived.Deep.QuietTactic
import Derived.BigQuiet
import Derived.Laws.Cover1
namespace Go.Proofs.Ytjkfgbmlhglnfaa
open Go.RowKit Go.Shelf
set_option linter.unusedVariables false
set_option linter.unusedSimpArgs false
set_option maxRecDepth 100000
attribute [local go_sem] Oper.semAt_some

theorem withinFn14 (v : Value) (hv : v.oneCell' = true) (fa fb : ByteArray) (w : World) :
    Calls Try.prog 116 #[v, .string fa, .string fb] w fun e w' => e = .returned (.func (.func 146) #[] #[.pointer (some ⟨w.heap.size, 0, none⟩), .pointer (some ⟨w.heap.size + 1, 0, none⟩), .pointer (some ⟨w.heap.size + 2, 0, none⟩)]) ∧ w' = ((w.alloc (.cells #[v] 69)).alloc (.cells #[.string fa] 9)).alloc (.cells #[.string fb] 9) := by
  go_enter Try.func116, Try.ntmps116
  go_wp2
  go_ret
  exact ⟨rfl, rfl⟩
theorem takeWhile_get {α : Type} (p : α → Bool) {L : List α} {i : Nat} {x : α} (h : L[i]? = some x) (hi : i < (L.takeWhile p).length) : (L.takeWhile p)[i]? = some x := by
  have h2 := List.prefix_iff_getElem?.1 (List.takeWhile_prefix (l := L) p) i hi
  rw [h] at h2
  rw [List.getElem?_eq_getElem hi]
  exact h2.symm
/-- The keys of a range, with what the map has of them. -/
def rngK (M : List (Itm × Value)) (fa fb : ByteArray) : List (Itm × Value) := (M.drop (plK (keysM M) fa)).takeWhile (fun p => fb.toList.isEmpty || lt14 p.1.k fb)
/-- What the iterator reads. -/
structure Rd14 (w : World) (b1 b2 b3 q : Nat) (vk : Value) (g : Nat) (K : List ByteArray) (fa fb : ByteArray) : Prop where
  c1 : w.cell? ⟨b1, 0, none⟩ = some (.pointer (some ⟨q, 0, none⟩))
  c2 : w.cell? ⟨b2, 0, none⟩ = some (.string fa)
  c3 : w.cell? ⟨b3, 0, none⟩ = some (.string fb)
  s0 : w.cell? ⟨q, 0, none⟩ = some vk
  s1 : w.cell? ⟨q, 1, none⟩ = some (.map (some g))
  keys : Kr w vk K
set_option maxHeartbeats 4000000 in
theorem win_core (b1 b2 b3 q g : Nat) (vk : Value) (M : List (Itm × Value)) (fa fb : ByteArray) (l : Nat) (J Jx : Nat → World → Prop) (W : World) (hr : risK (keysM M)) (hM : M.length ≤ 100000000) (hsz : ∀ p ∈ M, p.1.k.size ≤ maxLen)
    (hJ : ∀ i X, J i X → Rd14 X b1 b2 b3 q vk g (keysM M) fa fb ∧ ∀ p, (rngK M fa fb)[i]? = some p → ∃ n F, Mp X g n F ∧ F p.1.k.toList = some p.2)
    (hY : ∀ i p X, (rngK M fa fb)[i]? = some p → J i X → YieldAt Fence.wide (2 - 1) Try.prog l #[.string p.1.k, p.2] X fun e X' => (e = .returned (.bool true) ∧ J (i + 1) X') ∨ (e = .returned (.bool false) ∧ Jx (i + 1) X'))
    (hS : ∀ i X X', J i X → Turn (fun _ => False) X X' → J i X') (h0 : J 0 W) :
    CallsIn Fence.wide 2 Try.prog 146 (#[.func (.yield l) #[] #[]] ++ #[.pointer (some ⟨b1, 0, none⟩), .pointer (some ⟨b2, 0, none⟩), .pointer (some ⟨b3, 0, none⟩)]) W fun e W' => (∃ v, e = .returned v) ∧ (J (rngK M fa fb).length W' ∨ ∃ i, i ≤ (rngK M fa fb).length ∧ Jx i W') := by
  have HB := Lib.hid (fun W (h : Kr W vk (keysM M)) => bsearch14q (keysM M) vk fa W h hr (by simpa [keysM] using hM))
  refine callsIn_of_wp Try.func146 rfl trivial ?_ rfl
  simp only [Try.ntmps146, List.size_toArray, List.length_cons, List.length_nil, Nat.reduceAdd, Nat.reduceSub, Array.replicate_succ, Array.replicate_zero, List.push_toArray, List.append_toArray, List.nil_append, List.cons_append]
  obtain ⟨⟨c1, c2, c3, s0, s1, hk⟩, _⟩ := hJ 0 W h0
  have HK := Lib.hid hk
  have HLN : Hid ((keysM M).length = M.length) := Lib.hid (by simp [keysM])
  have hpl := plK_le (keysM M) fa
  rw [HLN.out] at hpl
  obtain ⟨pl, hpl2⟩ : ∃ pl, plK (keysM M) fa = pl := ⟨_, rfl⟩
  have HRG : Hid (rngK M fa fb = (M.drop pl).takeWhile (fun p => fb.toList.isEmpty || lt14 p.1.k fb)) := Lib.hid (by unfold rngK; rw [hpl2])
  rw [hpl2] at hpl HB
  obtain ⟨R, hR⟩ : ∃ R, rngK M fa fb = R := ⟨_, rfl⟩
  rw [hR] at hJ hY HRG ⊢
  have HJ := Lib.hid hJ
  have HY := Lib.hid hY
  have HS := Lib.hid hS
  clear hR hpl2 hJ hY hS hr
  obtain ⟨n, hn⟩ : ∃ n, M.length = n := ⟨_, rfl⟩
  have HN := Lib.hid hn
  rw [hn] at hM hpl HLN
  obtain ⟨A, c, hc, hA, hAs, rfl⟩ : ∃ A c, n ≤ c ∧ (0 < n → ∃ g0, A = some ⟨g0, 0, none⟩) ∧ (∀ ad, A = some ad → ∃ g0, A = some ⟨g0, 0, none⟩) ∧ vk = .slice A n c := by
    rcases hk.form with ⟨e, h2⟩ | ⟨g0, cap, cs, e, h1, h2, h3, h4, h5⟩
    · have : n = 0 := by have := HLN.out; rw [h2] at this; simp at this; omega
      exact ⟨none, 0, by omega, (fun h => by omega), (fun ad e => by cases e), by rw [e, this]⟩
    · rw [HLN.out] at h2 e
      exact ⟨_, cap, h2, fun _ => ⟨g0, rfl⟩, fun _ _ => ⟨g0, rfl⟩, e⟩
  clear hk hn
  have hp0 : (0 : Int) ≤ (pl : Int) := by omega
  have hp1 : (pl : Int) ≤ (n : Int) := by omega
  have hp2 : (n : Int) ≤ (c : Int) := by omega
  by_cases hlt0 : pl < n
  · obtain ⟨g0, rfl⟩ := hA (by omega)
    have hcp : ¬ c = pl := by omega
    have hrl : R.length ≤ n - pl := by
      rw [HRG.out, ← HN.out, ← List.length_drop]
      exact (List.takeWhile_prefix _).length_le
    clear hA
    gi_wp2_with fail
    refine wpIn_wide.2 ?_
    go_quiet ((go_at_call 54; exact Calls.quiet_of (HB.out _ (HK.out.turn ((Turn.refl (fun _ => False) _).drewN _) (fun _ _ h => h)))))
    have H0 := Lib.hid (HS.out 0 _ _ h0 ((Turn.refl _ _).drewN nq))
    clear HB HK h0
    gi_wp2_with fail
    clear c1 c2 c3 s0 s1
    gi_loopw [8, 25] (fun v8 v25 wr => ∃ i : Nat, i ≤ R.length ∧ v25 = .int .i64 i ∧ J i wr) (fun _ v25 _ => n - pl - (intOf v25).toNat)
    case atStart => exact ⟨0, Nat.zero_le _, rfl, H0.out⟩
    case round =>
      clear H0
      obtain ⟨i, hi, rfl, hJs⟩ := hrel
      have HJ1 := Lib.hid hJs
      obtain ⟨⟨c1, c2, c3, s0, s1, hk⟩, hlk⟩ := HJ.out i wr hJs
      have HLK := Lib.hid hlk
      clear hlk hJs
      by_cases hlt : i < n - pl
      · obtain ⟨p, hp⟩ : ∃ p, M[pl + i]? = some p := ⟨_, List.getElem?_eq_getElem (by rw [HN.out]; omega)⟩
        have k0 : wr.cell? ⟨g0, pl + i, none⟩ = some (.string p.1.k) := hk.cell (pl + i) p.1.k (by simp only [keysM, List.getElem?_map, hp, Option.map_some])
        have hl1 : (i : Int) < ((n - pl : Nat) : Int) := by omega
        have hl0 : (0 : Int) ≤ (i : Int) := by omega
        have hq := wrap_of ((i : Int) + 1) (by omega) (by omega)
        have hsp := hsz p (List.mem_of_getElem? hp)
        have hD : (M.drop pl)[i]? = some p := by rw [List.getElem?_drop]; exact hp
        by_cases hir : i < R.length
        · have hRi : R[i]? = some p := by
            have h5 := hir
            rw [HRG.out] at h5 ⊢
            exact takeWhile_get _ hD h5
          have hP := takeWhile_at _ (M.drop pl) i p hD (by rw [← HRG.out]; exact hir)
          obtain ⟨mn, F, hmp, hF⟩ := HLK.out p hRi
          have hrun : (Instr.lookup 124 (.map (some g)) (.string p.1.k) false).run Try.prog wr = .ok p.2 wr := by
            rw [hmp.lookup Try.underlying124 (zero_vers wr) p.1.k hsp, hF]
            rfl
          obtain ⟨fn, tmps, assign, body, hy, hR⟩ := HY.out i p wr hRi HJ1.out
          obtain ⟨⟨pk, pvs⟩, pv⟩ := p
          simp only at k0 hP hrun hy hsp hR
          clear hp hD hRi hmp hF hk
          have key : (fb.toList == []) = true ∨ ((fb.toList == []) = false ∧ Op.bytesLess pk.toList fb.toList = true) := by
            cases hfe : fb.toList with
            | nil => exact .inl rfl
            | cons a t =>
              right
              rw [hfe] at hP
              refine ⟨rfl, ?_⟩
              simp only [List.isEmpty_cons, Bool.false_or] at hP
              rw [← hfe, ByteArray.toList_eq, ByteArray.toList_eq]
              exact hP
          have HQ := Lib.hid hq
          have HRR := Lib.hid hR
          clear hP hR
          rcases key with hf1 | ⟨hf1, hf2⟩
          all_goals
            gi_wp2_with fail
            refine HRR.out.mono ?_
            rintro e W3 (⟨rfl, hJ3⟩ | ⟨rfl, hJx3⟩)
            · have HJ3 := Lib.hid hJ3
              clear hJ3
              gi_wp2_with fail
              go_roundw
              case rel => exact ⟨i + 1, hir, by simp [hq], HJ3.out⟩
              case measure => simp [intOf, hq]; omega
            · have HJ3 := Lib.hid hJx3
              clear hJx3
              gi_wp2_with fail
              refine bodyPost_ret (results_none rfl _ _ _) rfl ?_
              exact ⟨⟨_, rfl⟩, .inr ⟨i + 1, hir, HJ3.out⟩⟩
        · obtain rfl : i = R.length := by omega
          have hP : (fb.toList.isEmpty || lt14 p.1.k fb) = false := by
            have h5 := takeWhile_stop (fun p : Itm × Value => fb.toList.isEmpty || lt14 p.1.k fb) (M.drop pl) p (by rw [← HRG.out]; exact hD)
            exact h5
          rw [Bool.or_eq_false_iff] at hP
          have hf1 : (fb.toList == []) = false := by
            have := hP.1
            cases hfe : fb.toList with
            | nil => rw [hfe] at this; cases this
            | cons a t => rfl
          have hf2 : Op.bytesLess p.1.k.toList fb.toList = false := by
            rw [ByteArray.toList_eq, ByteArray.toList_eq]
            exact hP.2
          obtain ⟨⟨pk, pvs⟩, pv⟩ := p
          simp only at k0 hf2
          clear hp hD hk hP
          gi_wp2_with fail
          refine ⟨(fun f h => by cases h), ?_⟩
          gi_wp2_with fail
          refine bodyPost_ret (results_none rfl _ _ _) rfl ?_
          exact ⟨⟨_, rfl⟩, .inl HJ1.out⟩
      · have hir : i = R.length := by
          have : (M.drop pl).length ≤ i := by rw [List.length_drop, HN.out]; omega
          rcases Nat.lt_or_ge i R.length with h | h
          · omega
          · omega
        subst hir
        gi_wp2_with fail
        go_end0
        exact ⟨⟨_, rfl⟩, .inl HJ1.out⟩
  · obtain rfl : pl = n := by omega
    have hR0 : R.length = 0 := by
      rw [HRG.out, List.drop_eq_nil_of_le (by rw [HN.out]; exact Nat.le_refl _)]
      rfl
    have hAA : (A = none ∧ pl = 0) ∨ ∃ g0, A = some ⟨g0, 0, none⟩ := by
      rcases Nat.eq_zero_or_pos pl with h | h
      · cases A with
        | none => exact .inl ⟨rfl, h⟩
        | some ad => exact .inr (hAs ad rfl)
      · exact .inr (hA h)
    rcases hAA with ⟨rfl, rfl⟩ | ⟨g0, rfl⟩
    all_goals
      gi_wp2_with fail
      refine wpIn_wide.2 ?_
      go_quiet ((go_at_call 54; exact Calls.quiet_of (HB.out _ (HK.out.turn ((Turn.refl (fun _ => False) _).drewN _) (fun _ _ h => h)))))
      have H0 := Lib.hid (HS.out 0 _ _ h0 ((Turn.refl _ _).drewN nq))
      clear HB HK h0
      gi_wp2_with fail
      all_goals
        gi_loopw [8, 25] (fun v8 v25 wr => v25 = .int .i64 0 ∧ J 0 wr) (fun _ _ _ => 0)
        case atStart => exact ⟨rfl, H0.out⟩
        case round =>
          obtain ⟨rfl, hJs⟩ := hrel
          have HJ1 := Lib.hid hJs
          clear hJs
          gi_wp2_with fail
          go_end0
          exact ⟨⟨_, rfl⟩, .inl (by rw [hR0]; exact HJ1.out)⟩
end Go.Proofs.Ytjkfgbmlhglnfaa
/- Layer 14: a loop over a range's keys, by what holds behind i of them. -/
namespace Go.Proofs.Ytjkfgbmlhglnfaa
open Go.RowKit Go.Shelf
set_option linter.unusedVariables false
set_option linter.unusedSimpArgs false
set_option maxRecDepth 100000

/-- How a round may be left. -/
def post14 (B : Nat) (I : Nat → World → Prop) (Ix : Code → Nat → World → Prop) (i : Nat) (W : World) : Exit → Act → World → Prop
  | .normal, _, X => KeepsFrom B W X ∧ I i X
  | .ret, _, X => KeepsFrom B W X ∧ Ix .ret i X
  | .exit id, _, X => KeepsFrom B W X ∧ Ix (.exit id) i X
  | _, _, _ => False
theorem turn_grown {w w' : World} (h : Turn (fun _ => False) w w') : w.grownBy w' none := ⟨h.os, h.tape, h.output, h.size, fun k hk _ => h.block k hk (fun h => h)⟩
/-- The loop's record. -/
abbrev Rec14 (f : FuncId) (t : Array Value) (ps : Array Tmp) (assign body : Code) (D : Nat) (st : LoopState) (p : Option Code) : Loop := { state := st, pending := p, fn := f, tmps := t, params := ps, assign, body, defers := D }
set_option maxHeartbeats 2000000 in
theorem range14 {go : Operand} {ps : Array Tmp} {assign body : Code} {Q : Exit → Act → World → Prop} {a : Act} {w : World}
    (b1 b2 b3 q g : Nat) (vk : Value) (M : List (Itm × Value)) (fa fb : ByteArray)
    (hg : a.eval go = .func (.func 146) #[] #[.pointer (some ⟨b1, 0, none⟩), .pointer (some ⟨b2, 0, none⟩), .pointer (some ⟨b3, 0, none⟩)]) (hps : ps.size = 2)
    (hr : risK (keysM M)) (hM : M.length ≤ 100000000) (hsz : ∀ p ∈ M, p.1.k.size ≤ maxLen)
    (I : Nat → World → Prop) (Ix : Code → Nat → World → Prop) (hI : OwnFrom w.heap.size I) (hIx : ∀ c, OwnFrom w.heap.size (Ix c))
    (hJ : ∀ i X, I i X → Rd14 X b1 b2 b3 q vk g (keysM M) fa fb ∧ ∀ p, (rngK M fa fb)[i]? = some p → ∃ n F, Mp X g n F ∧ F p.1.k.toList = some p.2)
    (h0 : I 0 w) (a1 : Itm × Value → Act)
    (hassign : ∀ (l : Nat) (p : Itm × Value) (W : World) (K : Act → World → Prop), K (a1 p) W →
      assign.wpIn (Fence.wide.inRound l) (3 - 1 - 1) Try.prog (Exit.then K (fun _ _ _ => False)) { tmps := (ps.zip #[.string p.1.k, p.2]).foldl (fun t (p, v) => t.setIfInBounds p v) a.tmps, defers := [] } W)
    (hbody : ∀ (l i : Nat) (p : Itm × Value) (W : World), (rngK M fa fb)[i]? = some p → I i W → body.wpIn (Fence.wide.inRound l) (3 - 1 - 1) Try.prog (post14 w.heap.size I Ix (i + 1) W) (a1 p) W)
    (hdone : ∀ (D : Nat) (W : World), w.heap.size ≤ D → I (rngK M fa fb).length W → W.heap[D]? = some (.deferred (some [])) → Q .normal { a with defers := { target := .collected D, args := #[] } :: a.defers } W)
    (hstop : ∀ (D : Nat) (c : Code) (i : Nat) (W : World), w.heap.size ≤ D → i ≤ (rngK M fa fb).length → Ix c i W → W.heap[D]? = some (.deferred (some [])) → c.wpIn Fence.wide 3 Try.prog Q { a with defers := { target := .collected D, args := #[] } :: a.defers } W) :
    (Code.rangeFunc go ps assign body).wpIn Fence.wide 3 Try.prog Q a w := by
  refine wpIn_rangeFunc ?_
  intro fn hfn
  have hro : Fence.wide.round = none := rfl
  rw [hro]
  obtain ⟨W1, hW1⟩ : ∃ X, (w.alloc (.deferred (some []))).alloc (.loop (Rec14 fn a.tmps ps assign body w.heap.size .ready none)) = X := ⟨_, rfl⟩
  have hL : W1.heap[w.heap.size + 1]? = some (.loop (Rec14 fn a.tmps ps assign body w.heap.size .ready none)) := by
    rw [← hW1]
    have h := World.alloc_heap_new (w.alloc (.deferred (some []))) (.loop (Rec14 fn a.tmps ps assign body w.heap.size .ready none))
    rwa [World.size_alloc] at h
  have hD : W1.heap[w.heap.size]? = some (.deferred (some [])) := by
    rw [← hW1]
    exact (Below.heap_alloc _ _ _ (by simp)).trans (World.alloc_heap_new w _)
  have hI1 : I 0 W1 := by rw [← hW1]; exact hI.alloc _ (hI.alloc _ h0)
  have hcall := win_core b1 b2 b3 q g vk M fa fb (w.heap.size + 1)
    (fun i X => I i X ∧ X.heap[w.heap.size + 1]? = some (.loop (Rec14 fn a.tmps ps assign body w.heap.size .ready none)) ∧ X.heap[w.heap.size]? = some (.deferred (some [])))
    (fun i X => ∃ c, Ix c i X ∧ X.heap[w.heap.size + 1]? = some (.loop (Rec14 fn a.tmps ps assign body w.heap.size .done (some c))) ∧ X.heap[w.heap.size]? = some (.deferred (some [])))
    W1 hr hM hsz (fun i X h => hJ i X h.1) ?round ?still ⟨hI1, hL, hD⟩
  case still =>
    rintro i X X' ⟨h1, h2, h3⟩ ht
    exact ⟨hI i X X' none h1 (turn_grown ht) (fun r e => by cases e), (ht.block _ (Array.getElem?_eq_some_iff.1 h2).1 (fun h => h)).trans h2, (ht.block _ (Array.getElem?_eq_some_iff.1 h3).1 (fun h => h)).trans h3⟩
  case round =>
    rintro i p X hp ⟨h1, h2, h3⟩
    have hy := run_yield (P := Try.prog) (args := #[.string p.1.k, p.2]) h2 (by rw [hps]; rfl)
    refine ⟨fn, _, assign, body, hy, roundIn_of_wpIn hfn (hassign _ p X _ ?_)⟩
    clear hy
    have hlt : w.heap.size + 1 < X.heap.size := (Array.getElem?_eq_some_iff.1 h2).1
    obtain ⟨Y, hY⟩ : ∃ Y, X.putObj (w.heap.size + 1) (.loop (Rec14 fn a.tmps ps assign body w.heap.size .busy none)) = Y := ⟨_, rfl⟩
    have y2 : Y.heap[w.heap.size + 1]? = some (.loop (Rec14 fn a.tmps ps assign body w.heap.size .busy none)) := by rw [← hY]; exact World.putObj_heap_same hlt
    have y3 : Y.heap[w.heap.size]? = some (.deferred (some [])) := by rw [← hY]; exact (World.putObj_heap_other (by omega)).trans h3
    have y1 : I i Y := by rw [← hY]; exact hI.putObj _ h1 (by omega) h2 rfl
    refine ⟨Y, by rw [← hY]; exact run_beginRound h2 rfl, wpIn_mono (hbody _ i p Y hp y1) ?_⟩
    -- Behind the round's body: the record is laid again.
    have last : ∀ (jump : Option Code) (Z : World), KeepsFrom w.heap.size Y Z →
        (Instr.endRound (w.heap.size + 1) jump).run Try.prog Z = .ok (.bool jump.isNone) (Z.putObj (w.heap.size + 1) (.loop (Rec14 fn a.tmps ps assign body w.heap.size (if jump.isNone then .ready else .done) jump))) ∧
        Z.heap[w.heap.size + 1]? = some (.loop (Rec14 fn a.tmps ps assign body w.heap.size .busy none)) ∧
        (Z.putObj (w.heap.size + 1) (.loop (Rec14 fn a.tmps ps assign body w.heap.size (if jump.isNone then .ready else .done) jump))).heap[w.heap.size + 1]? = some (.loop (Rec14 fn a.tmps ps assign body w.heap.size (if jump.isNone then .ready else .done) jump)) ∧
        (Z.putObj (w.heap.size + 1) (.loop (Rec14 fn a.tmps ps assign body w.heap.size (if jump.isNone then .ready else .done) jump))).heap[w.heap.size]? = some (.deferred (some [])) := fun jump Z hk => by
      have z2 := hk.same _ _ (by omega) y2 rfl
      exact ⟨run_endRound jump z2, z2, World.putObj_heap_same (Array.getElem?_eq_some_iff.1 z2).1, (World.putObj_heap_other (by omega)).trans (hk.same _ _ (Nat.le_refl _) y3 rfl)⟩
    rintro e a3 Z hp3
    cases e with
    | normal =>
      obtain ⟨k1, k2⟩ := hp3
      obtain ⟨r1, r2, r3, r4⟩ := last none Z k1
      exact ⟨_, _, r1, .inl ⟨rfl, hI.putObj _ k2 (by omega) r2 rfl, r3, r4⟩⟩
    | ret =>
      obtain ⟨k1, k2⟩ := hp3
      obtain ⟨r1, r2, r3, r4⟩ := last (some .ret) Z k1
      exact ⟨_, _, r1, .inr ⟨rfl, .ret, (hIx _).putObj _ k2 (by omega) r2 rfl, r3, r4⟩⟩
    | exit id =>
      obtain ⟨k1, k2⟩ := hp3
      obtain ⟨r1, r2, r3, r4⟩ := last (some (.exit id)) Z k1
      exact ⟨_, _, r1, .inr ⟨rfl, .exit id, (hIx _).putObj _ k2 (by omega) r2 rfl, r3, r4⟩⟩
    | goto t => exact hp3.elim
    | panic ch => exact hp3.elim
    | outgrown => exact hp3.elim
  have e1 : (Instr.enterLoop fn a.tmps ps assign body none).run Try.prog w = .ok (w.heap.size + 1, [{ target := .collected w.heap.size, args := #[] }]) W1 := by
    rw [← hW1]; exact run_enterLoop_outer _ _ _ _ _
  have e2 : (resolve a.eval (rangeCall go (w.heap.size + 1)) 0).run Try.prog W1 = .ok { target := .fn (.func 146) #[.pointer (some ⟨b1, 0, none⟩), .pointer (some ⟨b2, 0, none⟩), .pointer (some ⟨b3, 0, none⟩)], args := #[.func (.yield (w.heap.size + 1)) #[] #[]] } W1 := by
    simp only [resolve, hg]
    simp [go_sem]
  have e4 : (invoke (.fn (.func 146) #[.pointer (some ⟨b1, 0, none⟩), .pointer (some ⟨b2, 0, none⟩), .pointer (some ⟨b3, 0, none⟩)]) #[.func (.yield (w.heap.size + 1)) #[] #[]]).run Try.prog W1 = .ok (.enter 146 (#[.func (.yield (w.heap.size + 1)) #[] #[]] ++ #[.pointer (some ⟨b1, 0, none⟩), .pointer (some ⟨b2, 0, none⟩), .pointer (some ⟨b3, 0, none⟩)])) W1 := by
    simp [invoke, go_sem, enters_of Try.func146 (by kernel_rfl) rfl]
  have e6 : CallsIn Fence.wide (3 - 1) Try.prog 146 (#[.func (.yield (w.heap.size + 1)) #[] #[]] ++ #[.pointer (some ⟨b1, 0, none⟩), .pointer (some ⟨b2, 0, none⟩), .pointer (some ⟨b3, 0, none⟩)]) W1 (rangePost Fence.wide 3 Try.prog (w.heap.size + 1) Q { a with defers := [{ target := .collected w.heap.size, args := #[] }] ++ a.defers }) := by
    refine CallsIn.mono hcall ?_
    rintro e Z ⟨⟨v, rfl⟩, (⟨k1, k2, k3⟩ | ⟨i, hi, c, k1, k2, k3⟩)⟩
    · exact ⟨none, _, run_endLoop (P := Try.prog) k2 (by simp), hdone _ _ (Nat.le_refl _) (hI.putObj _ k1 (by omega) k2 rfl) ((World.putObj_heap_other (by omega)).trans k3)⟩
    · exact ⟨some c, _, run_endLoop (P := Try.prog) k2 (by simp), hstop _ c i _ (Nat.le_refl _) hi ((hIx c).putObj _ k1 (by omega) k2 rfl) ((World.putObj_heap_other (by omega)).trans k3)⟩
  exact ⟨_, _, _, _, _, _, _, _, e1, e2, fun _ _ => trivial, e4, fun _ => by decide, e6⟩
end Go.Proofs.Ytjkfgbmlhglnfaa
