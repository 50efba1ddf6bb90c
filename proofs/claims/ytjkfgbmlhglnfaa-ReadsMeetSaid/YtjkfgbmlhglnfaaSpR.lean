/- Layer 14: the program's Get. -/
import Derived.Test.YtjkfgbmlhglnfaaSpP
import Derived.Test.YtjkfgbmlhglnfaaSpI
namespace Go.Proofs.Ytjkfgbmlhglnfaa
open Go.RowKit Go.Shelf
set_option linter.unusedVariables false
set_option linter.unusedSimpArgs false
set_option maxRecDepth 100000

/-- Bounds of a space. -/
def Bm (N : Nat) (M : List (Itm × Value)) : Prop := M.length ≤ N ∧ ∀ p ∈ M, p.1.vs.length ≤ N ∧ p.1.k.size ≤ 128
theorem look_vr {w : World} {q g : Nat} {vk : Value} {M : List (Itm × Value)} {last mark : Int} (h : Sp w q vk g M last mark) (key : ByteArray) : Vr w ((look M key.toList).getD (.slice none 0 0)) (fndk M key) := by
  unfold look fndk
  cases hf : M.find? (fun p => p.1.k.toList == key.toList) with
  | none => exact vr_nil _
  | some p => exact (h.vers p (List.mem_of_find?_eq_some hf)).1.1
theorem look_cv {w : World} {q g : Nat} {vk : Value} {M : List (Itm × Value)} {last mark : Int} (h : Sp w q vk g M last mark) (key : ByteArray) : Cv ((look M key.toList).getD (.slice none 0 0)) := by
  unfold look
  cases hf : M.find? (fun p => p.1.k.toList == key.toList) with
  | none => exact fun A n c e => by injection e with _ e2 e3; omega
  | some p => exact (h.vers p (List.mem_of_find?_eq_some hf)).2.1
end Go.Proofs.Ytjkfgbmlhglnfaa
/- Layer 14: what a range's keys tell, plainly. -/
namespace Go.Proofs.Ytjkfgbmlhglnfaa
open Go.RowKit
set_option linter.unusedVariables false
set_option linter.unusedSimpArgs false

def wP (fb : ByteArray) (p : Itm × Value) : Bool := fb.toList.isEmpty || lt14 p.1.k fb
theorem rngK_eq (M : List (Itm × Value)) (fa fb : ByteArray) : rngK M fa fb = (M.drop (plK (keysM M) fa)).takeWhile (wP fb) := rfl
theorem split14 (M : List (Itm × Value)) (fa fb : ByteArray) : M = M.take (plK (keysM M) fa) ++ (rngK M fa fb ++ (M.drop (plK (keysM M) fa)).dropWhile (wP fb)) := by
  rw [rngK_eq, List.takeWhile_append_dropWhile, List.take_append_drop]
theorem key_at {M : List (Itm × Value)} {j : Nat} {p : Itm × Value} (h : M[j]? = some p) : (keysM M)[j]? = some p.1.k := by simp [keysM, h]
theorem win_take {M : List (Itm × Value)} {fa fb : ByteArray} {x : Itm × Value} (h : x ∈ M.take (plK (keysM M) fa)) : win x.1.k fa fb = false := by
  obtain ⟨j, hj⟩ := List.getElem?_of_mem h
  have hl : j < plK (keysM M) fa := by
    rcases Nat.lt_or_ge j (plK (keysM M) fa) with h1 | h1
    · exact h1
    · rw [List.getElem?_take_eq_none h1] at hj; cases hj
  rw [List.getElem?_take_of_lt hl] at hj
  have := plK_below (key_at hj) hl
  simp [win, this]
theorem not_below {M : List (Itm × Value)} (hr : risK (keysM M)) {fa : ByteArray} {x : Itm × Value} (h : x ∈ M.drop (plK (keysM M) fa)) : lt14 x.1.k fa = false := by
  obtain ⟨j, hj⟩ := List.getElem?_of_mem h
  rw [List.getElem?_drop] at hj
  exact plK_above hr (key_at hj) (by omega)
theorem win_rng {M : List (Itm × Value)} (hr : risK (keysM M)) {fa fb : ByteArray} {x : Itm × Value} (h : x ∈ rngK M fa fb) : win x.1.k fa fb = true := by
  have h1 : x ∈ M.drop (plK (keysM M) fa) := (List.takeWhile_prefix _).subset h
  have h2 := List.all_eq_true.1 (List.all_takeWhile (p := wP fb) (l := M.drop (plK (keysM M) fa))) x h
  have h3 := not_below hr h1
  unfold wP at h2
  simp only [win, h3, Bool.not_false, Bool.true_and]
  exact h2
theorem drop_ris {M : List (Itm × Value)} (hr : risK (keysM M)) (n : Nat) : risK (keysM (M.drop n)) := by
  unfold risK keysM at *
  rw [List.map_drop]
  exact hr.drop
theorem rest_false : ∀ {D : List (Itm × Value)} (hr : risK (keysM D)) {fb : ByteArray} {x : Itm × Value}, x ∈ D.dropWhile (wP fb) → wP fb x = false
  | [], _, fb, x, h => by simp at h
  | y :: D, hr, fb, x, h => by
    have hr2 := List.pairwise_cons.1 (show List.Pairwise (fun a b => lt14 a b = true) (y.1.k :: keysM D) from hr)
    by_cases hy : wP fb y = true
    · rw [List.dropWhile_cons_of_pos hy] at h
      exact rest_false hr2.2 h
    · rw [List.dropWhile_cons_of_neg hy] at h
      have hyf : wP fb y = false := by simpa using hy
      rcases List.mem_cons.1 h with rfl | h
      · exact hyf
      · have hl := hr2.1 x.1.k (List.mem_map.2 ⟨x, h, rfl⟩)
        unfold wP at hyf ⊢
        rw [Bool.or_eq_false_iff] at hyf ⊢
        refine ⟨hyf.1, ?_⟩
        cases hx : lt14 x.1.k fb with
        | false => rfl
        | true => rw [lt14_trans hl hx] at hyf; cases hyf.2
theorem win_rest {M : List (Itm × Value)} (hr : risK (keysM M)) {fa fb : ByteArray} {x : Itm × Value} (h : x ∈ (M.drop (plK (keysM M) fa)).dropWhile (wP fb)) : win x.1.k fa fb = false := by
  have h1 := rest_false (drop_ris hr _) h
  unfold wP at h1
  simp only [win, h1, Bool.and_false]
theorem scs_no {fa fb : ByteArray} {t most : Int} {out : List Pq2} {p : Itm × Value} (h : win p.1.k fa fb = false) : scs fa fb t most out p = out := by simp [scs, h]
theorem fold_no {fa fb : ByteArray} {t most : Int} : ∀ {L : List (Itm × Value)} (out : List Pq2), (∀ x ∈ L, win x.1.k fa fb = false) → L.foldl (scs fa fb t most) out = out
  | [], out, _ => rfl
  | x :: L, out, h => by
    rw [List.foldl_cons, scs_no (h x (by simp))]
    exact fold_no out (fun y hy => h y (by simp [hy]))
theorem scl_rng {M : List (Itm × Value)} (hr : risK (keysM M)) (fa fb : ByteArray) (t most : Int) : scl M fa fb t most = (rngK M fa fb).foldl (scs fa fb t most) [] := by
  unfold scl
  conv => lhs; rw [split14 M fa fb]
  rw [List.foldl_append, List.foldl_append, fold_no [] (fun x hx => win_take hx), fold_no _ (fun x hx => win_rest hr hx)]
theorem scs_full {fa fb : ByteArray} {t most : Int} {out : List Pq2} (h : (out.length : Int) = most) (p : Itm × Value) : scs fa fb t most out p = out := by
  unfold scs
  rw [if_neg]
  have h1 : decide (most < 0) = false := by simp; omega
  have h2 : decide ((out.length : Int) < most) = false := by simp; omega
  simp [h1, h2]
theorem fold_full {fa fb : ByteArray} {t most : Int} {out : List Pq2} (h : (out.length : Int) = most) : ∀ L : List (Itm × Value), L.foldl (scs fa fb t most) out = out
  | [] => rfl
  | x :: L => by rw [List.foldl_cons, scs_full h]; exact fold_full h L
/-- What a scan has behind i keys. -/
def out14 (M : List (Itm × Value)) (fa fb : ByteArray) (t most : Int) (i : Nat) : List Pq2 := ((rngK M fa fb).take i).foldl (scs fa fb t most) []
theorem out_all {M : List (Itm × Value)} (hr : risK (keysM M)) (fa fb : ByteArray) (t most : Int) : out14 M fa fb t most (rngK M fa fb).length = scl M fa fb t most := by
  unfold out14
  rw [List.take_length, scl_rng hr]
theorem out_full {M : List (Itm × Value)} (hr : risK (keysM M)) {fa fb : ByteArray} {t most : Int} {i : Nat} (h : ((out14 M fa fb t most i).length : Int) = most) : out14 M fa fb t most i = scl M fa fb t most := by
  rw [scl_rng hr]
  conv => rhs; rw [← List.take_append_drop i (rngK M fa fb)]
  rw [List.foldl_append]
  exact (fold_full h _).symm
theorem out_next {M : List (Itm × Value)} (hr : risK (keysM M)) {fa fb : ByteArray} {t most : Int} {i : Nat} {p : Itm × Value} (hp : (rngK M fa fb)[i]? = some p) (hm : ¬ ((out14 M fa fb t most i).length : Int) = most) (hlt : most < 0 ∨ ((out14 M fa fb t most i).length : Int) ≤ most) :
    out14 M fa fb t most (i + 1) = if (at13 p.1.vs t).2 then out14 M fa fb t most i ++ [⟨p.1.k, (at13 p.1.vs t).1⟩] else out14 M fa fb t most i := by
  have h1 : (decide (most < 0) || decide (((out14 M fa fb t most i).length : Int) < most)) = true := by
    rcases hlt with h | h
    · simp [h]
    · have h9 : ((out14 M fa fb t most i).length : Int) < most := by omega
      simp [h9]
  have h2 := win_rng hr (List.mem_of_getElem? hp)
  have h3 : out14 M fa fb t most (i + 1) = scs fa fb t most (out14 M fa fb t most i) p := by
    unfold out14
    rw [take_next hp, List.foldl_append]
    rfl
  rw [h3]
  unfold scs
  rw [h1, h2]
  simp
theorem scs_len (fa fb : ByteArray) (t most : Int) (out : List Pq2) (p : Itm × Value) : (scs fa fb t most out p).length ≤ out.length + 1 := by
  unfold scs
  split <;> simp
theorem scs_most (fa fb : ByteArray) (t most : Int) (out : List Pq2) (p : Itm × Value) (h : most < 0 ∨ (out.length : Int) ≤ most) : most < 0 ∨ ((scs fa fb t most out p).length : Int) ≤ most := by
  rcases h with h | h
  · exact .inl h
  · by_cases h0 : most < 0
    · exact .inl h0
    · right
      unfold scs
      split
      · rename_i hc
        simp only [Bool.and_eq_true, Bool.or_eq_true, decide_eq_true_eq] at hc
        rw [List.length_append, List.length_singleton]
        omega
      · exact h
theorem out_most (M : List (Itm × Value)) (fa fb : ByteArray) (t most : Int) (i : Nat) : (most < 0 ∨ ((out14 M fa fb t most i).length : Int) ≤ most) ∧ (out14 M fa fb t most i).length ≤ i := by
  have key : ∀ (L : List (Itm × Value)) (out : List Pq2), (most < 0 ∨ (out.length : Int) ≤ most) → (most < 0 ∨ ((L.foldl (scs fa fb t most) out).length : Int) ≤ most) ∧ (L.foldl (scs fa fb t most) out).length ≤ out.length + L.length := by
    intro L
    induction L with
    | nil => exact fun out h => ⟨h, by simp⟩
    | cons x L ih =>
      intro out h
      obtain ⟨h1, h2⟩ := ih _ (scs_most fa fb t most out x h)
      refine ⟨h1, ?_⟩
      have := scs_len fa fb t most out x
      rw [List.foldl_cons, List.length_cons]
      omega
  have h0 : most < 0 ∨ (([] : List Pq2).length : Int) ≤ most := by simp; omega
  obtain ⟨h1, h2⟩ := key ((rngK M fa fb).take i) [] h0
  refine ⟨h1, Nat.le_trans h2 ?_⟩
  simp
  omega
theorem any_no {fa fb : ByteArray} {t : Int} {L : List (Itm × Value)} (h : ∀ x ∈ L, win x.1.k fa fb = false) : L.any (fun p => win p.1.k fa fb && snc p.1.vs t) = false := by
  rw [List.any_eq_false]
  intro x hx
  simp [h x hx]
theorem snc_rng {M : List (Itm × Value)} (hr : risK (keysM M)) (fa fb : ByteArray) (t : Int) : snc14 M fa fb t = (rngK M fa fb).any (fun p => snc p.1.vs t) := by
  unfold snc14
  conv => lhs; rw [split14 M fa fb]
  rw [List.any_append, List.any_append, any_no (fun x hx => win_take hx), any_no (fun x hx => win_rest hr hx), Bool.false_or, Bool.or_false]
  apply Bool.eq_iff_iff.2
  rw [List.any_eq_true, List.any_eq_true]
  constructor
  · rintro ⟨x, hx, h⟩
    rw [win_rng hr hx] at h
    exact ⟨x, hx, by simpa using h⟩
  · rintro ⟨x, hx, h⟩
    exact ⟨x, hx, by rw [win_rng hr hx]; simpa using h⟩
theorem plK_empty : ∀ K : List ByteArray, plK K ByteArray.empty = 0
  | [] => rfl
  | x :: K => by
    have h : lt14 x ByteArray.empty = false := by
      unfold lt14
      exact bl_nil_right _
    unfold plK
    rw [List.takeWhile_cons_of_neg (by simp [h])]
    rfl
theorem rng_all (M : List (Itm × Value)) : rngK M ByteArray.empty ByteArray.empty = M := by
  rw [rngK_eq, plK_empty, List.drop_zero]
  have key : ∀ L : List (Itm × Value), L.takeWhile (wP ByteArray.empty) = L := by
    intro L
    induction L with
    | nil => rfl
    | cons x L ih => rw [List.takeWhile_cons_of_pos (by unfold wP; rw [ByteArray.toList_eq]; rfl), ih]
  exact key M
end Go.Proofs.Ytjkfgbmlhglnfaa
/- Layer 14: the program's Scan. -/
namespace Go.Proofs.Ytjkfgbmlhglnfaa
open Go.RowKit Go.Shelf
set_option linter.unusedVariables false
set_option linter.unusedSimpArgs false
set_option maxRecDepth 100000
attribute [local go_sem] Oper.semAt_some

theorem own_far14 {w : World} {base e size n : Nat} {v : Value} {xs : List Value} (h : w.ownsRow base e size v n xs) : ∀ k o, v.ownBlock = some k → w.heap[k]? = some o → o.isCells = true := by
  intro k o hk ho
  rcases h.2 with ⟨rfl, _⟩ | ⟨g, cap, cur, rfl, hb, hgg, _⟩
  · simp [Value.ownBlock] at hk
  · simp [Value.ownBlock] at hk
    subst hk
    rw [hgg] at ho
    injection ho with ho
    rw [← ho]; rfl
theorem blk_from14 {W W' : World} {g t : Nat} {cs : List Value} {row : Option Nat} (h : Blk W g t cs) (hg : W.grownBy W' row) (hr : ∀ k, row = some k → ∃ o : Obj, W.heap[k]? = some o ∧ o.isCells = false) : Blk W' g t cs := by
  refine (hg.block g h.lt (fun e => ?_)).trans h
  obtain ⟨o, ho, hc⟩ := hr g e.symm
  rw [show W.heap[g]? = _ from h] at ho
  cases ho
  cases hc
theorem own_grown14 {W W' : World} {base e size n : Nat} {v : Value} {xs : List Value} {row : Option Nat} (h : W.ownsRow base e size v n xs) (hg : W.grownBy W' row) (hr : ∀ k, row = some k → ∃ o : Obj, W.heap[k]? = some o ∧ o.isCells = false) : W'.ownsRow base e size v n xs := by
  refine ⟨h.1, ?_⟩
  rcases h.2 with hn | ⟨g, cap, cur, rfl, hb, hgg, rest⟩
  · exact .inl hn
  · refine .inr ⟨g, cap, cur, rfl, hb, ?_, rest⟩
    refine (hg.block g (Array.getElem?_eq_some_iff.1 hgg).1 (fun e => ?_)).trans hgg
    obtain ⟨o, ho, hc⟩ := hr g e.symm
    rw [hgg] at ho
    cases ho
    cases hc
theorem grown_turn14 {w w' : World} {row : Option Nat} (h : w.grownBy w' row) : Turn (fun k => row = some k) w w' := ⟨h.os, h.tape, h.output, h.size, fun k hk hne => h.block k hk (fun e => hne e.symm)⟩
/-- A row that a box holds, and nothing else of what stood has turned. -/
def Bx14 (W0 : World) (r tb T s : Nat) (n : Nat) (xs : List Value) (X : World) : Prop := ∃ v, Blk X r tb [v] ∧ X.ownsRow W0.heap.size T s v n xs ∧ Turn (fun k => k = r) W0 X
theorem bx_from14 (W0 : World) (r tb T s n : Nat) (xs : List Value) {X Y : World} {row : Option Nat} (h : Bx14 W0 r tb T s n xs X) (hg : X.grownBy Y row) (hr : ∀ k, row = some k → W0.heap.size ≤ k ∧ ∃ o : Obj, X.heap[k]? = some o ∧ o.isCells = false) : Bx14 W0 r tb T s n xs Y := by
  obtain ⟨v, h1, h2, h3⟩ := h
  exact ⟨v, blk_from14 h1 hg (fun k e => (hr k e).2), own_grown14 h2 hg (fun k e => (hr k e).2), h3.trans_new (grown_turn14 hg) (fun k hk e => by have := (hr k e).1; omega)⟩
theorem put_turn14 (W : World) (D : Nat) (o : Obj) : Turn (fun k => k = D) W (W.putObj D o) := (grown_turn14 (grownBy_putObj' W D o)).mono (fun k _ h => by injection h with h; exact h.symm)
theorem ret_mark14 {P : Program} {fn : Func} {R : Ending → World → Prop} {a : Go.Act} {W : World} {D : Nat} {v : Value} (hk : W.heap[D]? = some (.deferred (some []))) (hd : a.defers = [{ target := .collected D, args := #[] }])
    (hr : (results fn a.tmps).run P (W.putObj D (.deferred none)) = .ok v (W.putObj D (.deferred none))) (hR : R (.returned v) (W.putObj D (.deferred none))) : bodyPostM Fence.wide 3 P fn R .ret a W := by
  show LeavesInM _ _ _ _ _ _ a.defers .returning W
  rw [hd]
  exact ⟨(fun h => nomatch h), .inl ⟨D, _, rfl, run_takeDeferred hk, ⟨v, hr, hR⟩⟩⟩
/-- What a row is behind the loop's end. -/
theorem end_row14 {w W0 X : World} {D r tb T s n : Nat} {xs : List Value} {v : Value} (ft : Turn (fun _ => False) w W0) (h1 : Blk X r tb [v]) (h2 : X.ownsRow W0.heap.size T s v n xs) (h3 : Turn (fun k => k = r) W0 X) (hr : w.heap.size ≤ r) (hD : W0.heap.size ≤ D) (hdf : X.heap[D]? = some (.deferred (some []))) :
    (X.putObj D (.deferred none)).ownsRow w.heap.size T s v n xs ∧ Turn (fun _ => False) w (X.putObj D (.deferred none)) := by
  have TP := put_turn14 X D (.deferred none)
  have hsz := ft.size
  refine ⟨own_mono9 ?_ hsz, (ft.trans_new h3 (fun k hk e => by omega)).trans_new TP (fun k hk e => by omega)⟩
  obtain ⟨hl, ⟨e, h0⟩ | ⟨g, cap, cur, e, hB, hh, hn⟩⟩ := h2
  · exact ⟨hl, .inl ⟨e, h0⟩⟩
  · refine ⟨hl, .inr ⟨g, cap, cur, e, hB, (TP.block g (Array.getElem?_eq_some_iff.1 hh).1 (fun e => ?_)).trans hh, hn⟩⟩
    subst e
    rw [hdf] at hh
    cases hh
theorem parts14 {i : Option TypeInfo} {z : Option Value} {s b : Nat} (h : i.map (fun i => (i.zero, i.size, i.bytes)) = some (z, s, b)) : ∃ j, i = some j ∧ j.zero = z ∧ j.size = s ∧ j.bytes = b := by
  cases i with
  | none => cases h
  | some j => simp at h; exact ⟨j, rfl, h.1, h.2.1, h.2.2⟩
theorem wpListIn_app14 {F : Fence} {n : Nat} {w : World} {ops : Array Oper} {rest : List Oper} {o : Oper} {a : Act} {Q : Exit → Act → World → Prop}
    (hg : o.guard = none) (s x : Operand) (t : TypeId) (hop : o.op = Op.call { callee := Callee.builtin Builtin.append, args := #[s, x], argTypes := #[t, t] })
    (B T : Nat) (z : Value) (size bytes : Nat) (hu : Try.prog.underlying t = some (.slice T)) (hi : (Try.prog.info? T).map (fun i => (i.zero, i.size, i.bytes)) = some (some z, size, bytes)) (hz : z.cells.size = size) (hp : 0 < size) (hby : bytes ≤ 1000)
    (v : Value) (k : Nat) (xs : List Value) (hs : a.eval s = v) (hown : w.ownsRow B T size v k xs) (b : Nat) (news : List Value) (hx : a.eval x = .slice (some ⟨b, 0, none⟩) 1 1) (hb : Blk w b T news) (hl : news.length = size) (h1c : ∀ u ∈ news, u.oneCell' = true) (hk : k ≤ 100000000) (hB : B ≤ w.heap.size)
    (hK : ∀ A' c' w', w'.ownsRow B T size (.slice A' (k + 1) c') (k + 1) (xs ++ news) → Turn (fun j => v.ownBlock = some j) w w' → wpListIn F n Try.prog ops Q rest (a.put o.dst (.slice A' (k + 1) c')) w') :
    wpListIn F n Try.prog ops Q (o :: rest) a w := by
  obtain ⟨i0, hi0, hz0, hs0, hb0⟩ := parts14 hi
  refine wpListIn_append_own w hg s x t hop B T i0 z size bytes hu hi0 hz0 hs0 hb0 hz hp v k xs hs hown ⟨b, 0, none⟩ 1 1 news hx (by omega) (fun j u hj => by rw [Addr.add_mid, Nat.zero_add, hb.cell]; exact hj) h1c (by unfold maxLen; omega) (Nat.le_trans (Nat.mul_le_mul (show k + 1 ≤ 100000001 from by omega) hby) (by decide)) hB ?_
  intro v' w' h1 h2 _
  obtain ⟨A', c', rfl⟩ := own_slice_ h1
  exact hK A' c' w' h1 ((grown_turn14 h2).mono (fun k _ h => h))
theorem bx_step14 {W0 W w5 : World} {r tb T s n : Nat} {xs news : List Value} {v : Value} {A5 : Option Addr} {c5 : Nat} {o : Obj} (h1 : Blk W r tb [v]) (h2 : W.ownsRow W0.heap.size T s v n xs) (h3 : Turn (fun k => k = r) W0 W) (hr : r < W0.heap.size)
    (h5 : w5.ownsRow W0.heap.size T s (.slice A5 (n + 1) c5) (n + 1) (xs ++ news)) (t5 : Turn (fun j => v.ownBlock = some j) (W.alloc o) w5) :
    w5.cell? ⟨r, 0, none⟩ = some v ∧ w5.frozen? ⟨r, 0, none⟩ = false ∧ KeepsFrom W0.heap.size W (w5.setCell ⟨r, 0, none⟩ (.slice A5 (n + 1) c5)) ∧ Bx14 W0 r tb T s (n + 1) (xs ++ news) (w5.setCell ⟨r, 0, none⟩ (.slice A5 (n + 1) c5)) := by
  have hne : ¬ v.ownBlock = some r := fun e => by have := (own_ge9 h2 r e).1; omega
  have b5 : Blk w5 r tb [v] := (h1.alloc o).turn t5 hne
  have TS : Turn (fun k => k = r) w5 (w5.setCell ⟨r, 0, none⟩ (.slice A5 (n + 1) c5)) := (Turn.refl (fun k => k = r) w5).setCell (p := ⟨r, 0, none⟩) (.inl rfl) _
  have T5 : Turn (fun k => v.ownBlock = some k) W w5 := ((Turn.refl _ W).alloc o).trans_new t5 (fun k _ h => h)
  have TW : Turn (fun k => v.ownBlock = some k ∨ k = r) W (w5.setCell ⟨r, 0, none⟩ (.slice A5 (n + 1) c5)) := (T5.mono (fun k _ h => .inl h)).trans_new TS (fun k _ h => .inr h)
  have hsz := h3.size
  refine ⟨b5.cell 0, b5.free 0, ⟨TW.size, fun k o hk ho hc => ?_⟩, _, b5.put 0 _, ?_, h3.trans_new TW (fun k hk h => ?_)⟩
  · rw [TW.block k (Array.getElem?_eq_some_iff.1 ho).1 (fun h => by
      rcases h with h | h
      · rw [own_far14 h2 k o h ho] at hc
        cases hc
      · omega)]
    exact ho
  · obtain ⟨hl, ⟨e, h0⟩ | ⟨g, cap, cur, e, hB, hh, hn⟩⟩ := h5
    · exact ⟨hl, .inl ⟨e, h0⟩⟩
    · exact ⟨hl, .inr ⟨g, cap, cur, e, hB, (TS.block g (Array.getElem?_eq_some_iff.1 hh).1 (fun e => by omega)).trans hh, hn⟩⟩
  · rcases h with h | h
    · have := (own_ge9 h2 k h).1
      omega
    · exact h
theorem rd14_of {X : World} {q g : Nat} {vk : Value} {M : List (Itm × Value)} {last mark : Int} {b1 b2 b3 : Nat} {fa fb : ByteArray} (h : Sp X q vk g M last mark) (c1 : X.cell? ⟨b1, 0, none⟩ = some (.pointer (some ⟨q, 0, none⟩))) (c2 : X.cell? ⟨b2, 0, none⟩ = some (.string fa)) (c3 : X.cell? ⟨b3, 0, none⟩ = some (.string fb)) : Rd14 X b1 b2 b3 q vk g (keysM M) fa fb :=
  ⟨c1, c2, c3, h.box.cell 0, h.box.cell 1, h.keys⟩
theorem ris_look : ∀ {M : List (Itm × Value)} (hr : risK (keysM M)) {p : Itm × Value}, p ∈ M → look M p.1.k.toList = some p.2
  | [], _, p, h => by cases h
  | x :: M, hr, p, h => by
    have hr2 := List.pairwise_cons.1 (show List.Pairwise (fun a b => lt14 a b = true) (x.1.k :: keysM M) from hr)
    unfold look
    rcases List.mem_cons.1 h with rfl | h
    · simp
    · have hl := hr2.1 p.1.k (List.mem_map.2 ⟨p, h, rfl⟩)
      have hne : (x.1.k.toList == p.1.k.toList) = false := by
        rw [beq_eq_false_iff_ne]
        intro e
        rw [ByteArray.toList_eq, ByteArray.toList_eq] at e
        rw [ba_ext e, lt14_self] at hl
        cases hl
      rw [List.find?_cons_of_neg (by simp [hne])]
      exact ris_look hr2.2 h
theorem rng_mem {M : List (Itm × Value)} {fa fb : ByteArray} {i : Nat} {p : Itm × Value} (h : (rngK M fa fb)[i]? = some p) : p ∈ M := List.mem_of_mem_drop ((List.takeWhile_prefix _).subset (List.mem_of_getElem? h))
end Go.Proofs.Ytjkfgbmlhglnfaa
