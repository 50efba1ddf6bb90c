/- Layer 14: the program's Get. -/
import Derived.Test.YtobddfpdijmgiaaSpP
import Derived.Test.YtobddfpdijmgiaaSpI
namespace Go.Proofs.Ytobddfpdijmgiaa
open Go.RowKit Go.Shelf
set_option linter.unusedVariables false
set_option linter.unusedSimpArgs false
set_option maxRecDepth 100000

/-- Bounds of a space. -/
def Bm (N : Nat) (M : List (Itm × Value)) : Prop := M.length ≤ N ∧ ∀ p ∈ M, p.1.vs.length ≤ N ∧ p.1.k.size ≤ 128
theorem look_vr {w : World} {q g : Nat} {vk : Value} {M : List (Itm × Value)} {last mark : Int} (h : Sp w q vk g M last mark) (key : ByteArray) : Vr w ((look M key.toList).getD (.slice none 0 0)) (fndk M key) := by
  unfold look fndk
  cases hf : M.find? (fun p => p.1.k.toList == key.toList) with
  | none => exact vr_nil _
  | some p => exact (h.vers p (List.mem_of_find?_eq_some hf)).1.1
theorem look_cv {w : World} {q g : Nat} {vk : Value} {M : List (Itm × Value)} {last mark : Int} (h : Sp w q vk g M last mark) (key : ByteArray) : Cv ((look M key.toList).getD (.slice none 0 0)) := by
  unfold look
  cases hf : M.find? (fun p => p.1.k.toList == key.toList) with
  | none => exact fun A n c e => by injection e with _ e2 e3; omega
  | some p => exact (h.vers p (List.mem_of_find?_eq_some hf)).2.1
theorem get_14 {w : World} {q g : Nat} {vk : Value} {M : List (Itm × Value)} {last mark : Int} (key : ByteArray) (t : Int) (h : Sp w q vk g M last mark) (hb : ∀ p ∈ M, p.1.vs.length ≤ 100000) (hk : key.size ≤ maxLen) :
    Calls Try.prog 23 #[.pointer (some ⟨q, 0, none⟩), .string key, .int .i64 t] w fun e w' => e = .returned (.tuple #[.string (get14 M last mark key t).1, .int .i64 (get14 M last mark key t).2]) ∧ Turn (fun _ => False) w w' := by
  have HT := Lib.hid (tells14 t h)
  have c1 := h.box.cell 1
  simp only [List.getElem?_cons_succ, List.getElem?_cons_zero] at c1
  have HM := Lib.hid h.map
  have hv := look_vr h key
  have HAT := Lib.hid (at_13 (fndk M key) _ t w hv (by have := fnd_bound hb key; omega))
  clear h hb
  unfold get14
  generalize kept14 last mark t = K at *
  obtain ⟨U, hU⟩ : ∃ U, (look M key.toList).getD (.slice none 0 0) = U := ⟨_, rfl⟩
  rw [hU] at HAT
  have HU := Lib.hid hU
  clear hv hU
  generalize fndk M key = V at *
  generalize at13 V t = R at *
  obtain ⟨rs, rb⟩ := R
  simp only at HAT ⊢
  by_cases hk0 : K = 0
  · subst hk0
    rw [if_pos rfl]
    cases rb
    all_goals
      go_enter Try.func23, Try.ntmps23
      go_wp2_with (first | (go_at_call 63; refine HT.out.mono ?_; rintro e w' ⟨rfl, rfl⟩) | (at_lookup; refine wpList_lookup_mp rfl _ _ rfl g M.length (look M) key hk rfl HM.out rfl ?_; rw [HU.out]) | (go_at_call 65; refine HAT.out.mono ?_; rintro e w3 ⟨rfl, ht3⟩; have T3 := Lib.hid ht3; clear ht3))
      go_ret2
      exact ⟨by first | rfl | simp, T3.out⟩
  · rw [if_neg hk0]
    have hkb : (K != 0) = true := by simpa using hk0
    go_enter Try.func23, Try.ntmps23
    go_wp2_with (go_at_call 63; refine HT.out.mono ?_; rintro e w' ⟨rfl, rfl⟩)
    go_ret2
    exact ⟨by first | rfl | simp, Turn.refl _ _⟩
end Go.Proofs.Ytobddfpdijmgiaa
/- Layer 14: what a range's keys tell, plainly. -/
namespace Go.Proofs.Ytobddfpdijmgiaa
open Go.RowKit
set_option linter.unusedVariables false
set_option linter.unusedSimpArgs false

def wP (fb : ByteArray) (p : Itm × Value) : Bool := fb.toList.isEmpty || lt14 p.1.k fb
theorem rngK_eq (M : List (Itm × Value)) (fa fb : ByteArray) : rngK M fa fb = (M.drop (plK (keysM M) fa)).takeWhile (wP fb) := rfl
theorem split14 (M : List (Itm × Value)) (fa fb : ByteArray) : M = M.take (plK (keysM M) fa) ++ (rngK M fa fb ++ (M.drop (plK (keysM M) fa)).dropWhile (wP fb)) := by
  rw [rngK_eq, List.takeWhile_append_dropWhile, List.take_append_drop]
theorem key_at {M : List (Itm × Value)} {j : Nat} {p : Itm × Value} (h : M[j]? = some p) : (keysM M)[j]? = some p.1.k := by simp [keysM, h]
theorem win_take {M : List (Itm × Value)} {fa fb : ByteArray} {x : Itm × Value} (h : x ∈ M.take (plK (keysM M) fa)) : win x.1.k fa fb = false := by
  obtain ⟨j, hj⟩ := List.getElem?_of_mem h
  have hl : j < plK (keysM M) fa := by
    rcases Nat.lt_or_ge j (plK (keysM M) fa) with h1 | h1
    · exact h1
    · rw [List.getElem?_take_eq_none h1] at hj; cases hj
  rw [List.getElem?_take_of_lt hl] at hj
  have := plK_below (key_at hj) hl
  simp [win, this]
theorem not_below {M : List (Itm × Value)} (hr : risK (keysM M)) {fa : ByteArray} {x : Itm × Value} (h : x ∈ M.drop (plK (keysM M) fa)) : lt14 x.1.k fa = false := by
  obtain ⟨j, hj⟩ := List.getElem?_of_mem h
  rw [List.getElem?_drop] at hj
  exact plK_above hr (key_at hj) (by omega)
theorem win_rng {M : List (Itm × Value)} (hr : risK (keysM M)) {fa fb : ByteArray} {x : Itm × Value} (h : x ∈ rngK M fa fb) : win x.1.k fa fb = true := by
  have h1 : x ∈ M.drop (plK (keysM M) fa) := (List.takeWhile_prefix _).subset h
  have h2 := List.all_eq_true.1 (List.all_takeWhile (p := wP fb) (l := M.drop (plK (keysM M) fa))) x h
  have h3 := not_below hr h1
  unfold wP at h2
  simp only [win, h3, Bool.not_false, Bool.true_and]
  exact h2
theorem drop_ris {M : List (Itm × Value)} (hr : risK (keysM M)) (n : Nat) : risK (keysM (M.drop n)) := by
  unfold risK keysM at *
  rw [List.map_drop]
  exact hr.drop
theorem rest_false : ∀ {D : List (Itm × Value)} (hr : risK (keysM D)) {fb : ByteArray} {x : Itm × Value}, x ∈ D.dropWhile (wP fb) → wP fb x = false
  | [], _, fb, x, h => by simp at h
  | y :: D, hr, fb, x, h => by
    have hr2 := List.pairwise_cons.1 (show List.Pairwise (fun a b => lt14 a b = true) (y.1.k :: keysM D) from hr)
    by_cases hy : wP fb y = true
    · rw [List.dropWhile_cons_of_pos hy] at h
      exact rest_false hr2.2 h
    · rw [List.dropWhile_cons_of_neg hy] at h
      have hyf : wP fb y = false := by simpa using hy
      rcases List.mem_cons.1 h with rfl | h
      · exact hyf
      · have hl := hr2.1 x.1.k (List.mem_map.2 ⟨x, h, rfl⟩)
        unfold wP at hyf ⊢
        rw [Bool.or_eq_false_iff] at hyf ⊢
        refine ⟨hyf.1, ?_⟩
        cases hx : lt14 x.1.k fb with
        | false => rfl
        | true => rw [lt14_trans hl hx] at hyf; cases hyf.2
theorem win_rest {M : List (Itm × Value)} (hr : risK (keysM M)) {fa fb : ByteArray} {x : Itm × Value} (h : x ∈ (M.drop (plK (keysM M) fa)).dropWhile (wP fb)) : win x.1.k fa fb = false := by
  have h1 := rest_false (drop_ris hr _) h
  unfold wP at h1
  simp only [win, h1, Bool.and_false]
theorem scs_no {fa fb : ByteArray} {t most : Int} {out : List Pq2} {p : Itm × Value} (h : win p.1.k fa fb = false) : scs fa fb t most out p = out := by simp [scs, h]
theorem fold_no {fa fb : ByteArray} {t most : Int} : ∀ {L : List (Itm × Value)} (out : List Pq2), (∀ x ∈ L, win x.1.k fa fb = false) → L.foldl (scs fa fb t most) out = out
  | [], out, _ => rfl
  | x :: L, out, h => by
    rw [List.foldl_cons, scs_no (h x (by simp))]
    exact fold_no out (fun y hy => h y (by simp [hy]))
theorem scl_rng {M : List (Itm × Value)} (hr : risK (keysM M)) (fa fb : ByteArray) (t most : Int) : scl M fa fb t most = (rngK M fa fb).foldl (scs fa fb t most) [] := by
  unfold scl
  conv => lhs; rw [split14 M fa fb]
  rw [List.foldl_append, List.foldl_append, fold_no [] (fun x hx => win_take hx), fold_no _ (fun x hx => win_rest hr hx)]
theorem scs_full {fa fb : ByteArray} {t most : Int} {out : List Pq2} (h : (out.length : Int) = most) (p : Itm × Value) : scs fa fb t most out p = out := by
  unfold scs
  rw [if_neg]
  have h1 : decide (most < 0) = false := by simp; omega
  have h2 : decide ((out.length : Int) < most) = false := by simp; omega
  simp [h1, h2]
theorem fold_full {fa fb : ByteArray} {t most : Int} {out : List Pq2} (h : (out.length : Int) = most) : ∀ L : List (Itm × Value), L.foldl (scs fa fb t most) out = out
  | [] => rfl
  | x :: L => by rw [List.foldl_cons, scs_full h]; exact fold_full h L
/-- What a scan has behind i keys. -/
def out14 (M : List (Itm × Value)) (fa fb : ByteArray) (t most : Int) (i : Nat) : List Pq2 := ((rngK M fa fb).take i).foldl (scs fa fb t most) []
theorem out_all {M : List (Itm × Value)} (hr : risK (keysM M)) (fa fb : ByteArray) (t most : Int) : out14 M fa fb t most (rngK M fa fb).length = scl M fa fb t most := by
  unfold out14
  rw [List.take_length, scl_rng hr]
theorem out_full {M : List (Itm × Value)} (hr : risK (keysM M)) {fa fb : ByteArray} {t most : Int} {i : Nat} (h : ((out14 M fa fb t most i).length : Int) = most) : out14 M fa fb t most i = scl M fa fb t most := by
  rw [scl_rng hr]
  conv => rhs; rw [← List.take_append_drop i (rngK M fa fb)]
  rw [List.foldl_append]
  exact (fold_full h _).symm
theorem out_next {M : List (Itm × Value)} (hr : risK (keysM M)) {fa fb : ByteArray} {t most : Int} {i : Nat} {p : Itm × Value} (hp : (rngK M fa fb)[i]? = some p) (hm : ¬ ((out14 M fa fb t most i).length : Int) = most) (hlt : most < 0 ∨ ((out14 M fa fb t most i).length : Int) ≤ most) :
    out14 M fa fb t most (i + 1) = if (at13 p.1.vs t).2 then out14 M fa fb t most i ++ [⟨p.1.k, (at13 p.1.vs t).1⟩] else out14 M fa fb t most i := by
  have h1 : (decide (most < 0) || decide (((out14 M fa fb t most i).length : Int) < most)) = true := by
    rcases hlt with h | h
    · simp [h]
    · have h9 : ((out14 M fa fb t most i).length : Int) < most := by omega
      simp [h9]
  have h2 := win_rng hr (List.mem_of_getElem? hp)
  have h3 : out14 M fa fb t most (i + 1) = scs fa fb t most (out14 M fa fb t most i) p := by
    unfold out14
    rw [take_next hp, List.foldl_append]
    rfl
  rw [h3]
  unfold scs
  rw [h1, h2]
  simp
theorem scs_len (fa fb : ByteArray) (t most : Int) (out : List Pq2) (p : Itm × Value) : (scs fa fb t most out p).length ≤ out.length + 1 := by
  unfold scs
  split <;> simp
theorem scs_most (fa fb : ByteArray) (t most : Int) (out : List Pq2) (p : Itm × Value) (h : most < 0 ∨ (out.length : Int) ≤ most) : most < 0 ∨ ((scs fa fb t most out p).length : Int) ≤ most := by
  rcases h with h | h
  · exact .inl h
  · by_cases h0 : most < 0
    · exact .inl h0
    · right
      unfold scs
      split
      · rename_i hc
        simp only [Bool.and_eq_true, Bool.or_eq_true, decide_eq_true_eq] at hc
        rw [List.length_append, List.length_singleton]
        omega
      · exact h
theorem out_most (M : List (Itm × Value)) (fa fb : ByteArray) (t most : Int) (i : Nat) : (most < 0 ∨ ((out14 M fa fb t most i).length : Int) ≤ most) ∧ (out14 M fa fb t most i).length ≤ i := by
  have key : ∀ (L : List (Itm × Value)) (out : List Pq2), (most < 0 ∨ (out.length : Int) ≤ most) → (most < 0 ∨ ((L.foldl (scs fa fb t most) out).length : Int) ≤ most) ∧ (L.foldl (scs fa fb t most) out).length ≤ out.length + L.length := by
    intro L
    induction L with
    | nil => exact fun out h => ⟨h, by simp⟩
    | cons x L ih =>
      intro out h
      obtain ⟨h1, h2⟩ := ih _ (scs_most fa fb t most out x h)
      refine ⟨h1, ?_⟩
      have := scs_len fa fb t most out x
      rw [List.foldl_cons, List.length_cons]
      omega
  have h0 : most < 0 ∨ (([] : List Pq2).length : Int) ≤ most := by simp; omega
  obtain ⟨h1, h2⟩ := key ((rngK M fa fb).take i) [] h0
  refine ⟨h1, Nat.le_trans h2 ?_⟩
  simp
  omega
theorem any_no {fa fb : ByteArray} {t : Int} {L : List (Itm × Value)} (h : ∀ x ∈ L, win x.1.k fa fb = false) : L.any (fun p => win p.1.k fa fb && snc p.1.vs t) = false := by
  rw [List.any_eq_false]
  intro x hx
  simp [h x hx]
theorem snc_rng {M : List (Itm × Value)} (hr : risK (keysM M)) (fa fb : ByteArray) (t : Int) : snc14 M fa fb t = (rngK M fa fb).any (fun p => snc p.1.vs t) := by
  unfold snc14
  conv => lhs; rw [split14 M fa fb]
  rw [List.any_append, List.any_append, any_no (fun x hx => win_take hx), any_no (fun x hx => win_rest hr hx), Bool.false_or, Bool.or_false]
  apply Bool.eq_iff_iff.2
  rw [List.any_eq_true, List.any_eq_true]
  constructor
  · rintro ⟨x, hx, h⟩
    rw [win_rng hr hx] at h
    exact ⟨x, hx, by simpa using h⟩
  · rintro ⟨x, hx, h⟩
    exact ⟨x, hx, by rw [win_rng hr hx]; simpa using h⟩
theorem plK_empty : ∀ K : List ByteArray, plK K ByteArray.empty = 0
  | [] => rfl
  | x :: K => by
    have h : lt14 x ByteArray.empty = false := by
      unfold lt14
      exact bl_nil_right _
    unfold plK
    rw [List.takeWhile_cons_of_neg (by simp [h])]
    rfl
theorem rng_all (M : List (Itm × Value)) : rngK M ByteArray.empty ByteArray.empty = M := by
  rw [rngK_eq, plK_empty, List.drop_zero]
  have key : ∀ L : List (Itm × Value), L.takeWhile (wP ByteArray.empty) = L := by
    intro L
    induction L with
    | nil => rfl
    | cons x L ih => rw [List.takeWhile_cons_of_pos (by unfold wP; rw [ByteArray.toList_eq]; rfl), ih]
  exact key M
end Go.Proofs.Ytobddfpdijmgiaa
/- Layer 14: the program's Scan. -/
namespace Go.Proofs.Ytobddfpdijmgiaa
open Go.RowKit Go.Shelf
set_option linter.unusedVariables false
set_option linter.unusedSimpArgs false
set_option maxRecDepth 100000
attribute [local go_sem] Oper.semAt_some

theorem own_far14 {w : World} {base e size n : Nat} {v : Value} {xs : List Value} (h : w.ownsRow base e size v n xs) : ∀ k o, v.ownBlock = some k → w.heap[k]? = some o → o.isCells = true := by
  intro k o hk ho
  rcases h.2 with ⟨rfl, _⟩ | ⟨g, cap, cur, rfl, hb, hgg, _⟩
  · simp [Value.ownBlock] at hk
  · simp [Value.ownBlock] at hk
    subst hk
    rw [hgg] at ho
    injection ho with ho
    rw [← ho]; rfl
theorem blk_from14 {W W' : World} {g t : Nat} {cs : List Value} {row : Option Nat} (h : Blk W g t cs) (hg : W.grownBy W' row) (hr : ∀ k, row = some k → ∃ o : Obj, W.heap[k]? = some o ∧ o.isCells = false) : Blk W' g t cs := by
  refine (hg.block g h.lt (fun e => ?_)).trans h
  obtain ⟨o, ho, hc⟩ := hr g e.symm
  rw [show W.heap[g]? = _ from h] at ho
  cases ho
  cases hc
theorem own_grown14 {W W' : World} {base e size n : Nat} {v : Value} {xs : List Value} {row : Option Nat} (h : W.ownsRow base e size v n xs) (hg : W.grownBy W' row) (hr : ∀ k, row = some k → ∃ o : Obj, W.heap[k]? = some o ∧ o.isCells = false) : W'.ownsRow base e size v n xs := by
  refine ⟨h.1, ?_⟩
  rcases h.2 with hn | ⟨g, cap, cur, rfl, hb, hgg, rest⟩
  · exact .inl hn
  · refine .inr ⟨g, cap, cur, rfl, hb, ?_, rest⟩
    refine (hg.block g (Array.getElem?_eq_some_iff.1 hgg).1 (fun e => ?_)).trans hgg
    obtain ⟨o, ho, hc⟩ := hr g e.symm
    rw [hgg] at ho
    cases ho
    cases hc
theorem grown_turn14 {w w' : World} {row : Option Nat} (h : w.grownBy w' row) : Turn (fun k => row = some k) w w' := ⟨h.os, h.tape, h.output, h.size, fun k hk hne => h.block k hk (fun e => hne e.symm)⟩
/-- A row that a box holds, and nothing else of what stood has turned. -/
def Bx14 (W0 : World) (r tb T s : Nat) (n : Nat) (xs : List Value) (X : World) : Prop := ∃ v, Blk X r tb [v] ∧ X.ownsRow W0.heap.size T s v n xs ∧ Turn (fun k => k = r) W0 X
theorem bx_from14 (W0 : World) (r tb T s n : Nat) (xs : List Value) {X Y : World} {row : Option Nat} (h : Bx14 W0 r tb T s n xs X) (hg : X.grownBy Y row) (hr : ∀ k, row = some k → W0.heap.size ≤ k ∧ ∃ o : Obj, X.heap[k]? = some o ∧ o.isCells = false) : Bx14 W0 r tb T s n xs Y := by
  obtain ⟨v, h1, h2, h3⟩ := h
  exact ⟨v, blk_from14 h1 hg (fun k e => (hr k e).2), own_grown14 h2 hg (fun k e => (hr k e).2), h3.trans_new (grown_turn14 hg) (fun k hk e => by have := (hr k e).1; omega)⟩
theorem put_turn14 (W : World) (D : Nat) (o : Obj) : Turn (fun k => k = D) W (W.putObj D o) := (grown_turn14 (grownBy_putObj' W D o)).mono (fun k _ h => by injection h with h; exact h.symm)
theorem ret_mark14 {P : Program} {fn : Func} {R : Ending → World → Prop} {a : Go.Act} {W : World} {D : Nat} {v : Value} (hk : W.heap[D]? = some (.deferred (some []))) (hd : a.defers = [{ target := .collected D, args := #[] }])
    (hr : (results fn a.tmps).run P (W.putObj D (.deferred none)) = .ok v (W.putObj D (.deferred none))) (hR : R (.returned v) (W.putObj D (.deferred none))) : bodyPostM Fence.wide 3 P fn R .ret a W := by
  show LeavesInM _ _ _ _ _ _ a.defers .returning W
  rw [hd]
  exact ⟨(fun h => nomatch h), .inl ⟨D, _, rfl, run_takeDeferred hk, ⟨v, hr, hR⟩⟩⟩
/-- What a row is behind the loop's end. -/
theorem end_row14 {w W0 X : World} {D r tb T s n : Nat} {xs : List Value} {v : Value} (ft : Turn (fun _ => False) w W0) (h1 : Blk X r tb [v]) (h2 : X.ownsRow W0.heap.size T s v n xs) (h3 : Turn (fun k => k = r) W0 X) (hr : w.heap.size ≤ r) (hD : W0.heap.size ≤ D) (hdf : X.heap[D]? = some (.deferred (some []))) :
    (X.putObj D (.deferred none)).ownsRow w.heap.size T s v n xs ∧ Turn (fun _ => False) w (X.putObj D (.deferred none)) := by
  have TP := put_turn14 X D (.deferred none)
  have hsz := ft.size
  refine ⟨own_mono9 ?_ hsz, (ft.trans_new h3 (fun k hk e => by omega)).trans_new TP (fun k hk e => by omega)⟩
  obtain ⟨hl, ⟨e, h0⟩ | ⟨g, cap, cur, e, hB, hh, hn⟩⟩ := h2
  · exact ⟨hl, .inl ⟨e, h0⟩⟩
  · refine ⟨hl, .inr ⟨g, cap, cur, e, hB, (TP.block g (Array.getElem?_eq_some_iff.1 hh).1 (fun e => ?_)).trans hh, hn⟩⟩
    subst e
    rw [hdf] at hh
    cases hh
theorem parts14 {i : Option TypeInfo} {z : Option Value} {s b : Nat} (h : i.map (fun i => (i.zero, i.size, i.bytes)) = some (z, s, b)) : ∃ j, i = some j ∧ j.zero = z ∧ j.size = s ∧ j.bytes = b := by
  cases i with
  | none => cases h
  | some j => simp at h; exact ⟨j, rfl, h.1, h.2.1, h.2.2⟩
theorem wpListIn_app14 {F : Fence} {n : Nat} {w : World} {ops : Array Oper} {rest : List Oper} {o : Oper} {a : Act} {Q : Exit → Act → World → Prop}
    (hg : o.guard = none) (s x : Operand) (t : TypeId) (hop : o.op = Op.call { callee := Callee.builtin Builtin.append, args := #[s, x], argTypes := #[t, t] })
    (B T : Nat) (z : Value) (size bytes : Nat) (hu : Try.prog.underlying t = some (.slice T)) (hi : (Try.prog.info? T).map (fun i => (i.zero, i.size, i.bytes)) = some (some z, size, bytes)) (hz : z.cells.size = size) (hp : 0 < size) (hby : bytes ≤ 1000)
    (v : Value) (k : Nat) (xs : List Value) (hs : a.eval s = v) (hown : w.ownsRow B T size v k xs) (b : Nat) (news : List Value) (hx : a.eval x = .slice (some ⟨b, 0, none⟩) 1 1) (hb : Blk w b T news) (hl : news.length = size) (h1c : ∀ u ∈ news, u.oneCell' = true) (hk : k ≤ 1000000) (hB : B ≤ w.heap.size)
    (hK : ∀ A' c' w', w'.ownsRow B T size (.slice A' (k + 1) c') (k + 1) (xs ++ news) → Turn (fun j => v.ownBlock = some j) w w' → wpListIn F n Try.prog ops Q rest (a.put o.dst (.slice A' (k + 1) c')) w') :
    wpListIn F n Try.prog ops Q (o :: rest) a w := by
  obtain ⟨i0, hi0, hz0, hs0, hb0⟩ := parts14 hi
  refine wpListIn_append_own w hg s x t hop B T i0 z size bytes hu hi0 hz0 hs0 hb0 hz hp v k xs hs hown ⟨b, 0, none⟩ 1 1 news hx (by omega) (fun j u hj => by rw [Addr.add_mid, Nat.zero_add, hb.cell]; exact hj) h1c (by unfold maxLen; omega) (Nat.le_trans (Nat.mul_le_mul (show k + 1 ≤ 1000001 from by omega) hby) (by decide)) hB ?_
  intro v' w' h1 h2 _
  obtain ⟨A', c', rfl⟩ := own_slice_ h1
  exact hK A' c' w' h1 ((grown_turn14 h2).mono (fun k _ h => h))
theorem bx_step14 {W0 W w5 : World} {r tb T s n : Nat} {xs news : List Value} {v : Value} {A5 : Option Addr} {c5 : Nat} {o : Obj} (h1 : Blk W r tb [v]) (h2 : W.ownsRow W0.heap.size T s v n xs) (h3 : Turn (fun k => k = r) W0 W) (hr : r < W0.heap.size)
    (h5 : w5.ownsRow W0.heap.size T s (.slice A5 (n + 1) c5) (n + 1) (xs ++ news)) (t5 : Turn (fun j => v.ownBlock = some j) (W.alloc o) w5) :
    w5.cell? ⟨r, 0, none⟩ = some v ∧ w5.frozen? ⟨r, 0, none⟩ = false ∧ KeepsFrom W0.heap.size W (w5.setCell ⟨r, 0, none⟩ (.slice A5 (n + 1) c5)) ∧ Bx14 W0 r tb T s (n + 1) (xs ++ news) (w5.setCell ⟨r, 0, none⟩ (.slice A5 (n + 1) c5)) := by
  have hne : ¬ v.ownBlock = some r := fun e => by have := (own_ge9 h2 r e).1; omega
  have b5 : Blk w5 r tb [v] := (h1.alloc o).turn t5 hne
  have TS : Turn (fun k => k = r) w5 (w5.setCell ⟨r, 0, none⟩ (.slice A5 (n + 1) c5)) := (Turn.refl (fun k => k = r) w5).setCell (p := ⟨r, 0, none⟩) (.inl rfl) _
  have T5 : Turn (fun k => v.ownBlock = some k) W w5 := ((Turn.refl _ W).alloc o).trans_new t5 (fun k _ h => h)
  have TW : Turn (fun k => v.ownBlock = some k ∨ k = r) W (w5.setCell ⟨r, 0, none⟩ (.slice A5 (n + 1) c5)) := (T5.mono (fun k _ h => .inl h)).trans_new TS (fun k _ h => .inr h)
  have hsz := h3.size
  refine ⟨b5.cell 0, b5.free 0, ⟨TW.size, fun k o hk ho hc => ?_⟩, _, b5.put 0 _, ?_, h3.trans_new TW (fun k hk h => ?_)⟩
  · rw [TW.block k (Array.getElem?_eq_some_iff.1 ho).1 (fun h => by
      rcases h with h | h
      · rw [own_far14 h2 k o h ho] at hc
        cases hc
      · omega)]
    exact ho
  · obtain ⟨hl, ⟨e, h0⟩ | ⟨g, cap, cur, e, hB, hh, hn⟩⟩ := h5
    · exact ⟨hl, .inl ⟨e, h0⟩⟩
    · exact ⟨hl, .inr ⟨g, cap, cur, e, hB, (TS.block g (Array.getElem?_eq_some_iff.1 hh).1 (fun e => by omega)).trans hh, hn⟩⟩
  · rcases h with h | h
    · have := (own_ge9 h2 k h).1
      omega
    · exact h
theorem rd14_of {X : World} {q g : Nat} {vk : Value} {M : List (Itm × Value)} {last mark : Int} {b1 b2 b3 : Nat} {fa fb : ByteArray} (h : Sp X q vk g M last mark) (c1 : X.cell? ⟨b1, 0, none⟩ = some (.pointer (some ⟨q, 0, none⟩))) (c2 : X.cell? ⟨b2, 0, none⟩ = some (.string fa)) (c3 : X.cell? ⟨b3, 0, none⟩ = some (.string fb)) : Rd14 X b1 b2 b3 q vk g (keysM M) fa fb :=
  ⟨c1, c2, c3, h.box.cell 0, h.box.cell 1, h.keys⟩
theorem ris_look : ∀ {M : List (Itm × Value)} (hr : risK (keysM M)) {p : Itm × Value}, p ∈ M → look M p.1.k.toList = some p.2
  | [], _, p, h => by cases h
  | x :: M, hr, p, h => by
    have hr2 := List.pairwise_cons.1 (show List.Pairwise (fun a b => lt14 a b = true) (x.1.k :: keysM M) from hr)
    unfold look
    rcases List.mem_cons.1 h with rfl | h
    · simp
    · have hl := hr2.1 p.1.k (List.mem_map.2 ⟨p, h, rfl⟩)
      have hne : (x.1.k.toList == p.1.k.toList) = false := by
        rw [beq_eq_false_iff_ne]
        intro e
        rw [ByteArray.toList_eq, ByteArray.toList_eq] at e
        rw [ba_ext e, lt14_self] at hl
        cases hl
      rw [List.find?_cons_of_neg (by simp [hne])]
      exact ris_look hr2.2 h
theorem rng_mem {M : List (Itm × Value)} {fa fb : ByteArray} {i : Nat} {p : Itm × Value} (h : (rngK M fa fb)[i]? = some p) : p ∈ M := List.mem_of_mem_drop ((List.takeWhile_prefix _).subset (List.mem_of_getElem? h))
set_option maxHeartbeats 4000000 in
theorem scan_14 {w : World} {q g : Nat} {vk : Value} {M : List (Itm × Value)} {last mark : Int} (fa fb : ByteArray) (t most : Int) (h : Sp w q vk g M last mark) (hb : Bm 100000 M) (hka : fa.size ≤ 140737488351232) (hkb : fb.size ≤ 140737488351232) (hk : kept14 last mark t = 0) :
    Calls Try.prog 22 #[.pointer (some ⟨q, 0, none⟩), .string fa, .string fb, .int .i64 t, .int .i64 most] w fun e w' => ∃ v, e = .returned (.tuple #[v, .int .i64 0]) ∧ Po w.heap.size w' v (scl M fa fb t most) ∧ Turn (fun _ => False) w w' := by
  refine (callsIn_wide (n := 3)).1 ?_
  refine callsIn_of_wp_marks Try.func22 rfl trivial ?_ rfl
  simp only [Try.ntmps22, List.size_toArray, List.length_cons, List.length_nil, Nat.reduceAdd, Nat.reduceSub, Array.replicate_succ, Array.replicate_zero, List.push_toArray, List.append_toArray, List.nil_append, List.cons_append]
  have HT := Lib.hid (fun W (hT : Turn (fun _ => False) w W) => tells14 t (h.still hT))
  rw [hk] at HT
  have HS := Lib.hid h
  clear h
  gi_wp2_with fail
  refine ⟨trivial, ?_⟩
  gi_at_call 63
  refine (callsIn_wide.2 (HT.out _ (((Turn.refl _ _).alloc _).alloc _))).mono ?_
  rintro e w' ⟨rfl, rfl⟩
  gi_wp2_with fail
  refine ⟨trivial, ?_⟩
  gi_at_call 64
  refine (callsIn_wide.2 (withinFn14 _ rfl fa fb _)).mono ?_
  rintro e w1 ⟨rfl, rfl⟩
  gi_wp2_with fail
  have F5 : Hid (∃ W0, W0 = (((((w.alloc (.cells #[.int .i64 t] 3)).alloc (.cells #[.int .i64 most] 3)).alloc (.cells #[.slice none 0 0] 46)).alloc (.cells #[.pointer (some ⟨q, 0, none⟩)] 27)).alloc (.cells #[.string fa] 9)).alloc (.cells #[.string fb] 9) ∧ Sp W0 q vk g M last mark ∧ W0.heap.size = w.heap.size + 6 ∧ Turn (fun _ => False) w W0 ∧ Blk W0 w.heap.size 3 [.int .i64 t] ∧ Blk W0 (w.heap.size + 1) 3 [.int .i64 most] ∧ Blk W0 (w.heap.size + 1 + 1) 46 [.slice none 0 0] ∧ Blk W0 (w.heap.size + 1 + 1 + 1) 27 [.pointer (some ⟨q, 0, none⟩)] ∧ Blk W0 (w.heap.size + 1 + 1 + 1 + 1) 9 [.string fa] ∧ Blk W0 (w.heap.size + 1 + 1 + 1 + 2) 9 [.string fb]) := by
    have T0 : Turn (fun _ => False) w ((((((w.alloc (.cells #[.int .i64 t] 3)).alloc (.cells #[.int .i64 most] 3)).alloc (.cells #[.slice none 0 0] 46)).alloc (.cells #[.pointer (some ⟨q, 0, none⟩)] 27)).alloc (.cells #[.string fa] 9)).alloc (.cells #[.string fb] 9)) := ((((((Turn.refl _ _).alloc _).alloc _).alloc _).alloc _).alloc _).alloc _
    refine Lib.hid ⟨_, rfl, HS.out.still T0, by simp, T0, ?_, ?_, ?_, ?_, ?_, ?_⟩
    · exact (((((Blk.new w 3 [.int .i64 t]).alloc _).alloc _).alloc _).alloc _).alloc _
    · exact ((((Blk.new_ _ 3 [.int .i64 most] (k := w.heap.size + 1) (by simp)).alloc _).alloc _).alloc _).alloc _
    · exact (((Blk.new_ _ 46 [.slice none 0 0] (k := w.heap.size + 1 + 1) (by simp)).alloc _).alloc _).alloc _
    · exact ((Blk.new_ _ 27 [.pointer (some ⟨q, 0, none⟩)] (k := w.heap.size + 1 + 1 + 1) (by simp)).alloc _).alloc _
    · exact (Blk.new_ _ 9 [.string fa] (k := w.heap.size + 1 + 1 + 1 + 1) (by simp)).alloc _
    · exact Blk.new_ _ 9 [.string fb] (k := w.heap.size + 1 + 1 + 1 + 2) (by simp)
  obtain ⟨W0, hW0, fs, fz, ft, f0, f1, f2, f3, f4, f5⟩ := F5.out
  rw [← hW0]
  clear F5 hW0
  have FS := Lib.hid fs
  have FB := Lib.hid fs.below
  have FX : Hid (∀ X, Turn (fun k => k = w.heap.size + 1 + 1) W0 X → Sp X q vk g M last mark ∧ Blk X w.heap.size 3 [.int .i64 t] ∧ Blk X (w.heap.size + 1) 3 [.int .i64 most] ∧ Rd14 X (w.heap.size + 1 + 1 + 1) (w.heap.size + 1 + 1 + 1 + 1) (w.heap.size + 1 + 1 + 1 + 2) q vk g (keysM M) fa fb) := Lib.hid (fun X hX => by
    have hb0 := HS.out.below
    have hs : Sp X q vk g M last mark := fs.turn hX (fun e => by have := hb0 q (.inl rfl); omega) (fun e => by have := hb0 g (.inr (.inl rfl)); omega) (fun k hk e => by have := hb0 k (.inr (.inr hk)); omega) (fun p hp h b hb e => by
      obtain ⟨b', e1, h1⟩ := (HS.out.vers p hp).1.1.at_ h
      rw [hb] at e1
      cases e1
      omega)
    exact ⟨hs, f0.turn hX (fun e => by omega), f1.turn hX (fun e => by omega), rd14_of hs ((f3.turn hX (fun e => by omega)).cell 0) ((f4.turn hX (fun e => by omega)).cell 0) ((f5.turn hX (fun e => by omega)).cell 0)⟩)
  have hMb := hb.1
  have HBv : Hid (∀ p ∈ M, p.1.vs.length ≤ 100000) := Lib.hid (fun p hp => (hb.2 p hp).1)
  have hr := HS.out.ord
  have HR := Lib.hid hr
  have HOM := Lib.hid (out_most M fa fb t most)
  clear f0 f1 f3 f4 f5 fs HT
  refine range14 (w.heap.size + 1 + 1 + 1) (w.heap.size + 1 + 1 + 1 + 1) (w.heap.size + 1 + 1 + 1 + 2) q g vk M fa fb rfl rfl hr (by omega) (fun p hp => by have := (hb.2 p hp).2; unfold maxLen; omega)
    (fun i X => Bx14 W0 (w.heap.size + 1 + 1) 46 61 2 (out14 M fa fb t most i).length ((out14 M fa fb t most i).flatMap pc2) X)
    (fun c i X => c = .exit 0 ∧ Bx14 W0 (w.heap.size + 1 + 1) 46 61 2 (scl M fa fb t most).length ((scl M fa fb t most).flatMap pc2) X)
    (fun i X Y row h hg hr => bx_from14 _ _ _ _ _ _ _ h hg hr) (fun c i X Y row h hg hr => ⟨h.1, bx_from14 _ _ _ _ _ _ _ h.2 hg hr⟩)
    (fun i X h => by
      obtain ⟨v, h1, h2, h3⟩ := h
      obtain ⟨k1, k2, k3, k4⟩ := FX.out X h3
      exact ⟨k4, fun p hp => ⟨_, _, k1.map, ris_look hr (rng_mem hp)⟩⟩)
    ⟨_, f2, World.ownsRow_nil _ _ _ _, Turn.refl _ _⟩ ?a1 ?assign ?body ?done ?stop
  case assign =>
    intro l p W K hK
    gi_wp2
    exact hK
  case body =>
    intro l i p W hp hI
    obtain ⟨v, h1, h2, h3⟩ := hI
    obtain ⟨k1, k2, k3, k4⟩ := FX.out W h3
    obtain ⟨A, c, rfl⟩ := own_slice_ h2
    have c0 := h1.cell 0
    have ct := k2.cell 0
    have cm := k3.cell 0
    simp only [List.getElem?_cons_zero] at c0 ct cm
    obtain ⟨om1, om2⟩ := HOM.out i
    have hpm := rng_mem hp
    have hil : i < M.length := by
      have h8 : i < (rngK M fa fb).length := by
        rcases Nat.lt_or_ge i (rngK M fa fb).length with h | h
        · exact h
        · rw [List.getElem?_eq_none h] at hp; cases hp
      have h9 : (rngK M fa fb).length ≤ M.length := by
        rw [rngK_eq]
        refine Nat.le_trans (List.takeWhile_prefix _).length_le ?_
        rw [List.length_drop]; omega
      omega
    have HNX := Lib.hid (fun hm => out_next HR.out (t := t) (most := most) hp hm om1)
    have HFU := Lib.hid (fun hm => out_full HR.out (fa := fa) (fb := fb) (t := t) (most := most) (i := i) hm)
    have hvv := (k1.vers p hpm).1.1
    have HAT := Lib.hid (at_13 p.1.vs p.2 t W hvv (by have := HBv.out p hpm; omega))
    obtain ⟨O, hO⟩ : ∃ O, out14 M fa fb t most i = O := ⟨_, rfl⟩
    rw [hO] at h1 h2 c0 om1 om2 HNX HFU
    obtain ⟨n, hn⟩ : ∃ n, O.length = n := ⟨_, rfl⟩
    rw [hn] at h1 h2 c0 om1 om2 HNX HFU
    have HN := Lib.hid hn
    have H1 := Lib.hid h1
    have H2 := Lib.hid h2
    have H3 := Lib.hid h3
    obtain ⟨⟨pk, pvs⟩, pv⟩ := p
    simp only at HNX HAT
    generalize at13 pvs t = AR at *
    obtain ⟨ars, arb⟩ := AR
    simp only at HNX HAT
    have hfz := fz
    clear hp h1 h2 h3 k1 k2 k3 k4 hpm hvv hO hn
    by_cases hm : (n : Int) = most
    · have hmb : ((n : Int) == most) = true := by simpa using hm
      have HF := HFU.out hm
      gi_wp2_with fail
      refine ⟨KeepsFrom.refl _ _, rfl, _, H1.out, ?_, H3.out⟩
      rw [← HF, HN.out]
      exact H2.out
    · have hmb : ((n : Int) == most) = false := by simpa using hm
      have HF := HNX.out hm
      cases arb with
      | false =>
        simp only [Bool.false_eq_true, if_false] at HF
        gi_wp2_with fail
        refine ⟨trivial, ?_⟩
        gi_at_call 65
        refine (CallsIn.inRound l (callsIn_wide.2 HAT.out)).mono ?_
        rintro e w3 ⟨rfl, ht3⟩
        have T3 := Lib.hid ht3
        clear ht3
        gi_wp2_with fail
        refine ⟨⟨T3.out.size, fun k o hk ho hc => (T3.out.block k (Array.getElem?_eq_some_iff.1 ho).1 (fun h => h)).trans ho⟩, ?_⟩
        refine ⟨_, H1.out.turn T3.out (fun h => h), ?_, H3.out.trans (T3.out.mono (fun k _ h => h.elim))⟩
        rw [HF, HN.out]
        exact own_still_ H2.out T3.out
      | true =>
        simp only [if_true] at HF
        gi_wp2_with fail
        refine ⟨trivial, ?_⟩
        gi_at_call 65
        refine (CallsIn.inRound l (callsIn_wide.2 HAT.out)).mono ?_
        rintro e w3 ⟨rfl, ht3⟩
        have T3 := Lib.hid ht3
        have B3 := Lib.hid (H1.out.turn ht3 (fun h => h))
        have c3 := B3.out.cell 0
        simp only [List.getElem?_cons_zero] at c3
        have O3 := Lib.hid (own_still_ H2.out ht3)
        have K3 := Lib.hid (H3.out.trans (ht3.mono (fun k _ h => h.elim)))
        clear ht3 c0
        gi_wp2_with (refine wpListIn_app14 rfl _ _ 46 rfl W0.heap.size 61 _ 2 32 Try.underlying46 info_pq2 rfl (by decide) (by decide) (.slice A n c) n (O.flatMap pc2) rfl (own_still_ O3.out ((Turn.refl _ _).alloc _)) w3.heap.size [.string pk, .string ars] rfl (Blk.new w3 61 [.string pk, .string ars]) rfl (fun u hu => by simp at hu; rcases hu with rfl | rfl <;> rfl) (by omega) (by rw [World.size_alloc]; have := K3.out.size; omega) ?_; intro A5 c5 w5 ho5 ht5; have hb5 := Lib.hid (bx_step14 B3.out O3.out K3.out (by omega) ho5 ht5); obtain ⟨c5x, z5x, _, _⟩ := hb5.out; clear ho5 ht5)
        obtain ⟨_, _, kf, bx⟩ := hb5.out
        refine ⟨KeepsFrom.trans ⟨T3.out.size, fun k o hk ho hc => (T3.out.block k (Array.getElem?_eq_some_iff.1 ho).1 (fun h => h)).trans ho⟩ kf, ?_⟩
        have e7 : (out14 M fa fb t most (i + 1)).length = n + 1 := by rw [HF, List.length_append, HN.out]; rfl
        have e8 : (out14 M fa fb t most (i + 1)).flatMap pc2 = O.flatMap pc2 ++ [.string pk, .string ars] := by rw [HF, List.flatMap_append]; rfl
        show Bx14 _ _ _ _ _ _ _ _
        rw [e7, e8]
        exact bx
  case done =>
    intro D X hD hI hdf
    obtain ⟨v, h1, h2, h3⟩ := hI
    obtain ⟨A, c, rfl⟩ := own_slice_ h2
    have c0 := h1.cell 0
    simp only [List.getElem?_cons_zero] at c0
    have HDF := Lib.hid hdf
    have H1 := Lib.hid h1
    have H2 := Lib.hid h2
    have H3 := Lib.hid h3
    clear h1 h2 h3 hdf
    gi_wp2_with fail
    obtain ⟨r1, r2⟩ := end_row14 ft H1.out H2.out H3.out (by omega) hD HDF.out
    refine ret_mark14 (D := D) (v := .tuple #[.slice A (out14 M fa fb t most (rngK M fa fb).length).length c, .int .i64 0]) HDF.out rfl (by simp [results, Try.results22, go_sem]) ⟨_, rfl, ?_, r2⟩
    have e9 := out_all HR.out fa fb t most
    unfold Po
    rw [← e9]
    exact r1
  case stop =>
    intro D c i X hD hi hI hdf
    obtain ⟨rfl, v, h1, h2, h3⟩ := hI
    obtain ⟨A, c, rfl⟩ := own_slice_ h2
    have c0 := h1.cell 0
    simp only [List.getElem?_cons_zero] at c0
    have HDF := Lib.hid hdf
    have H1 := Lib.hid h1
    have H2 := Lib.hid h2
    have H3 := Lib.hid h3
    clear h1 h2 h3 hdf
    gi_wp2_with fail
    obtain ⟨r1, r2⟩ := end_row14 ft H1.out H2.out H3.out (by omega) hD HDF.out
    exact ret_mark14 (D := D) (v := .tuple #[.slice A (scl M fa fb t most).length c, .int .i64 0]) HDF.out rfl (by simp [results, Try.results22, go_sem]) ⟨_, rfl, r1, r2⟩
theorem scan_14e {w : World} {q g : Nat} {vk : Value} {M : List (Itm × Value)} {last mark : Int} (fa fb : ByteArray) (t most : Int) (h : Sp w q vk g M last mark) (hk : ¬ kept14 last mark t = 0) :
    Calls Try.prog 22 #[.pointer (some ⟨q, 0, none⟩), .string fa, .string fb, .int .i64 t, .int .i64 most] w fun e w' => e = .returned (.tuple #[.slice none 0 0, .int .i64 (kept14 last mark t)]) ∧ Turn (fun _ => False) w w' := by
  have HT := Lib.hid (fun W (hT : Turn (fun _ => False) w W) => tells14 t (h.still hT))
  have hkb : (kept14 last mark t != 0) = true := by simpa using hk
  generalize kept14 last mark t = K at *
  clear h
  go_enter Try.func22, Try.ntmps22
  go_wp2_with (go_at_call 63; refine (HT.out _ (((Turn.refl _ _).alloc _).alloc _)).mono ?_; rintro e w' ⟨rfl, rfl⟩)
  go_ret2
  exact ⟨rfl, ((Turn.refl _ _).alloc _).alloc _⟩
theorem scan_14n {w : World} {v : Value} (fa fb : ByteArray) (t most : Int) (h : Nos w v) :
    Calls Try.prog 22 #[v, .string fa, .string fb, .int .i64 t, .int .i64 most] w fun e w' => e = .returned (.tuple #[.slice none 0 0, .int .i64 1]) ∧ Turn (fun _ => False) w w' := by
  have HT := Lib.hid (fun W (hT : Turn (fun _ => False) w W) => tells14_no t (h.still hT))
  clear h
  go_enter Try.func22, Try.ntmps22
  go_wp2_with (go_at_call 63; refine (HT.out _ (((Turn.refl _ _).alloc _).alloc _)).mono ?_; rintro e w' ⟨rfl, rfl⟩)
  go_ret2
  exact ⟨rfl, ((Turn.refl _ _).alloc _).alloc _⟩
end Go.Proofs.Ytobddfpdijmgiaa
