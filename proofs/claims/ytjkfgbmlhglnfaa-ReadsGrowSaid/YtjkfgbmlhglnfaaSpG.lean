/- Layer 14: the document's Vacuum. (mkSpD.py) -/
import Derived.Test.YtjkfgbmlhglnfaaSpN
import Derived.Test.YtjkfgbmlhglnfaaSpJ
import Derived.BigQuiet
namespace Go.Proofs.Ytjkfgbmlhglnfaa
open Go.RowKit
set_option linter.unusedVariables false
set_option linter.unusedSimpArgs false
set_option maxRecDepth 100000

theorem box3 {W : World} {q t : Nat} {u0 u1 u2 : Value} (h : Blk W q t [u0, u1, u2]) (x0 x1 x2 : Value) : Blk (((W.setCell ⟨q, 0, none⟩ x0).setCell ⟨q, 1, none⟩ x1).setCell ⟨q, 2, none⟩ x2) q t [x0, x1, x2] ∧ Turn (fun k => k = q) W (((W.setCell ⟨q, 0, none⟩ x0).setCell ⟨q, 1, none⟩ x1).setCell ⟨q, 2, none⟩ x2) ∧ (((W.setCell ⟨q, 0, none⟩ x0).setCell ⟨q, 1, none⟩ x1).setCell ⟨q, 2, none⟩ x2).cell? ⟨q, 0, none⟩ = some x0 ∧ (((W.setCell ⟨q, 0, none⟩ x0).setCell ⟨q, 1, none⟩ x1).setCell ⟨q, 2, none⟩ x2).cell? ⟨q, 1, none⟩ = some x1 ∧ (((W.setCell ⟨q, 0, none⟩ x0).setCell ⟨q, 1, none⟩ x1).setCell ⟨q, 2, none⟩ x2).cell? ⟨q, 2, none⟩ = some x2 := by
  have b : Blk (((W.setCell ⟨q, 0, none⟩ x0).setCell ⟨q, 1, none⟩ x1).setCell ⟨q, 2, none⟩ x2) q t [x0, x1, x2] := ((h.put 0 x0).put 1 x1).put 2 x2
  exact ⟨b, (((Turn.refl (fun k => k = q) W).setCell (p := ⟨q, 0, none⟩) (.inl rfl) x0).setCell (p := ⟨q, 1, none⟩) (.inl rfl) x1).setCell (p := ⟨q, 2, none⟩) (.inl rfl) x2, b.cell 0, b.cell 1, b.cell 2⟩
theorem cells3 {W : World} {q t : Nat} {u0 u1 u2 : Value} (h : Blk W q t [u0, u1, u2]) : W.cell? ⟨q, 0, none⟩ = some u0 ∧ W.cell? ⟨q, 1, none⟩ = some u1 ∧ W.cell? ⟨q, 2, none⟩ = some u2 ∧ W.frozen? ⟨q, 0, none⟩ = false ∧ W.frozen? ⟨q, 1, none⟩ = false ∧ W.frozen? ⟨q, 2, none⟩ = false := ⟨h.cell 0, h.cell 1, h.cell 2, h.free 0, h.free 1, h.free 2⟩
/-- Items whose versions were vacuumed; without versions it is none. (Of what stands where nothing is said.) -/
def vcm (L : List Itm) (mark : Int) : List Itm := (L.map (fun x => (⟨x.k, vac13 x.vs mark⟩ : Itm))).filter (fun x => !x.vs.isEmpty)
/-- A row of items that tells a list. -/
def IoL (B : Nat) (w : World) (v : Value) (L : List Itm) : Prop := ∃ M : List (Itm × Value), M.map (·.1) = L ∧ Io B w v M ∧ ∀ p ∈ M, 0 < p.1.vs.length → ∀ b, vb p.2 = some b → B ≤ b
theorem Io.far {B : Nat} {S : Nat → Prop} {w w' : World} {v : Value} {M : List (Itm × Value)} (h : Io B w v M) (ht : Turn S w w') (h1 : ∀ k, v.ownBlock = some k → ¬ S k) (h2 : ∀ p ∈ M, 0 < p.1.vs.length → ∀ b, vb p.2 = some b → ¬ S b) : Io B w' v M := by
  refine ⟨?_, fun p hp => ⟨(h.2 p hp).1.turn ht (h2 p hp), (h.2 p hp).2⟩⟩
  obtain ⟨hl, ⟨e, h0⟩ | ⟨g, cap, cur, e, hB, hh, hn, hc, hs, htk⟩⟩ := h.1
  · exact ⟨hl, .inl ⟨e, h0⟩⟩
  · exact ⟨hl, .inr ⟨g, cap, cur, e, hB, (ht.block g (Array.getElem?_eq_some_iff.1 hh).1 (h1 g (by rw [e]; rfl))).trans hh, hn, hc, hs, htk⟩⟩
theorem Io.base {B C : Nat} {w : World} {v : Value} {M : List (Itm × Value)} (h : Io C w v M) (hB : B ≤ C) : Io B w v M := by
  refine ⟨?_, h.2⟩
  obtain ⟨hl, ⟨e, h0⟩ | ⟨g, cap, cur, e, hC, hr⟩⟩ := h.1
  · exact ⟨hl, .inl ⟨e, h0⟩⟩
  · exact ⟨hl, .inr ⟨g, cap, cur, e, Nat.le_trans hB hC, hr⟩⟩
theorem vcm_next {M : List (Itm × Value)} {i : Nat} {p : Itm × Value} (h : M[i]? = some p) (mark : Int) : vcm ((M.take (i + 1)).map (·.1)) mark = vcm ((M.take i).map (·.1)) mark ++ (if (vac13 p.1.vs mark).isEmpty then [] else [⟨p.1.k, vac13 p.1.vs mark⟩]) := by
  rw [take_next h]
  unfold vcm
  simp only [List.map_append, List.map_cons, List.map_nil, List.filter_append]
  congr 1
  cases hv : (vac13 p.1.vs mark).isEmpty <;> simp [List.filter_cons, hv]
theorem vac_len (L : List Vn) (m : Int) : (vac13 L m).length ≤ L.length := by
  unfold vac13
  split
  · have key : ∀ L : List Vn, (vacf L m).length ≤ L.length := by
      intro L
      induction L with
      | nil => exact Nat.le_refl _
      | cons x L ih =>
        rw [vacf]
        split
        · split <;> simp
        · simp only [List.length_cons]; omega
    exact key L
  · simp
end Go.Proofs.Ytjkfgbmlhglnfaa
/- Layer 14: changes; the document's MayChange. -/
namespace Go.Proofs.Ytjkfgbmlhglnfaa
open Go.RowKit
set_option linter.unusedVariables false
set_option linter.unusedSimpArgs false
set_option maxRecDepth 100000

structure Cg where
  k : ByteArray
  v : ByteArray
  d : Bool
def cc (x : Cg) : List Value := [.string x.k, .string x.v, .bool x.d]
theorem cc_len (x : Cg) : (cc x).length = 3 := rfl
/-- Changes that a slice holds. -/
def Cx (w : World) (v : Value) (L : List Cg) : Prop := ∃ A c, v = .slice A L.length c ∧ L.length ≤ 9223372036854775807 ∧ Rc w A (L.flatMap cc)
theorem Cx.still {w w' : World} {v : Value} {L : List Cg} (h : Cx w v L) (ht : Turn (fun _ => False) w w') : Cx w' v L := by
  obtain ⟨A, c, e, hl, hr⟩ := h
  exact ⟨A, c, e, hl, hr.still ht⟩
theorem Rc.chg {w : World} {A : Option Addr} {L : List Cg} (h : Rc w A (L.flatMap cc)) (hp : 0 < L.length) : ∃ b o, A = some ⟨b, o, none⟩ ∧ b < w.heap.size ∧ ∀ X, Turn (fun _ => False) w X → ∀ j x, L[j]? = some x → X.cell? ⟨b, o + j * 3, none⟩ = some (.string x.k) ∧ X.cell? ⟨b, o + j * 3 + 1, none⟩ = some (.string x.v) ∧ X.cell? ⟨b, o + j * 3 + 2, none⟩ = some (.bool x.d) := by
  obtain ⟨b, o, e, hb, hc⟩ := h (by rw [flat_len cc_len]; omega)
  refine ⟨b, o, e, hb, fun X hX j p hj => ?_⟩
  have hk : ∀ j, X.cell? ⟨b, j, none⟩ = w.cell? ⟨b, j, none⟩ := fun j => World.cell?_of_block (w := w) (a := ⟨b, j, none⟩) (hX.block b hb (fun h => h))
  rw [hk, hk, hk, Nat.add_assoc, Nat.add_assoc]
  exact ⟨hc _ _ (flat_at cc_len L j 0 p hj (by decide)), hc _ _ (flat_at cc_len L j 1 p hj (by decide)), hc _ _ (flat_at cc_len L j 2 p hj (by decide))⟩
/-- A change by itself may be done. -/
def ok1 (x : Cg) : Bool := decide (x.k.size ≤ 128) && (decide (x.v.size ≤ 200) && (!x.d || x.v.toList.isEmpty))
def okc (L : List Cg) (i : Nat) : Bool := match L[i]? with
  | none => false
  | some x => ok1 x && (L.take i).all (fun y => !(y.k.toList == x.k.toList))
def mch (L : List Cg) : Bool := (List.range L.length).all (okc L)
theorem mch_false {L : List Cg} {i : Nat} (hi : i < L.length) (h : okc L i = false) : mch L = false := by
  unfold mch
  rw [List.all_eq_false]
  exact ⟨i, List.mem_range.2 hi, by rw [h]; decide⟩
theorem mch_true {L : List Cg} (h : ∀ j, j < L.length → okc L j = true) : mch L = true := by
  unfold mch
  rw [List.all_eq_true]
  exact fun j hj => h j (List.mem_range.1 hj)
theorem okc_at {L : List Cg} {i : Nat} {x : Cg} (h : L[i]? = some x) : okc L i = (ok1 x && (L.take i).all (fun y => !(y.k.toList == x.k.toList))) := by unfold okc; rw [h]
theorem key_ok1 (x : Cg) : ((128 : Int) < (x.k.size : Int) ∧ ok1 x = false) ∨ ((x.k.size : Int) ≤ 128 ∧ (200 : Int) < (x.v.size : Int) ∧ ok1 x = false) ∨ ((x.k.size : Int) ≤ 128 ∧ (x.v.size : Int) ≤ 200 ∧ x.d = false ∧ ok1 x = true) ∨ ((x.k.size : Int) ≤ 128 ∧ (x.v.size : Int) ≤ 200 ∧ x.d = true ∧ x.v.toList.isEmpty = true ∧ ok1 x = true) ∨ ((x.k.size : Int) ≤ 128 ∧ (x.v.size : Int) ≤ 200 ∧ x.d = true ∧ x.v.toList.isEmpty = false ∧ ok1 x = false) := by
  unfold ok1
  by_cases h1 : x.k.size ≤ 128
  · by_cases h2 : x.v.size ≤ 200
    · cases h3 : x.d <;> cases h4 : x.v.toList.isEmpty <;> simp [h1, h2] <;> omega
    · simp [h1, h2]; omega
  · simp [h1]; omega
theorem take_all_next {L : List Cg} {j : Nat} {y : Cg} {p : Cg → Bool} (h : L[j]? = some y) (ha : (L.take j).all p = true) (hp : p y = true) : (L.take (j + 1)).all p = true := by
  rw [List.take_add_one, h, List.all_append, ha]; simp [hp]
end Go.Proofs.Ytjkfgbmlhglnfaa
/- Layer 14: the document's Apply. (mkSpG.py) -/
namespace Go.Proofs.Ytjkfgbmlhglnfaa
open Go.RowKit
set_option linter.unusedVariables false
set_option linter.unusedSimpArgs false
set_option maxRecDepth 100000

def wstI (z : Itm) (st : List Itm × Bool) (x : Itm) : List Itm × Bool :=
  if (x.k.toList == z.k.toList) then (if !st.2 && !lt14 x.k z.k then (st.1 ++ [z], true) else st)
  else ((if !st.2 && !lt14 x.k z.k then st.1 ++ [z] else st.1) ++ [x], if !st.2 && !lt14 x.k z.k then true else st.2)
/-- Items with other versions of a key; without versions it is none. -/
def wthI (L : List Itm) (z : Itm) : List Itm :=
  if (L.foldl (wstI z) ([], z.vs.isEmpty)).2 then (L.foldl (wstI z) ([], z.vs.isEmpty)).1 else (L.foldl (wstI z) ([], z.vs.isEmpty)).1 ++ [z]
theorem wst_map (z : Itm × Value) (st : List (Itm × Value) × Bool) (x : Itm × Value) : ((wst z st x).1.map (·.1), (wst z st x).2) = wstI z.1 (st.1.map (·.1), st.2) x.1 := by
  unfold wst wstI
  cases h1 : (x.1.k.toList == z.1.k.toList) <;> cases h2 : (!st.2 && !lt14 x.1.k z.1.k) <;> simp
theorem wfold_map (z : Itm × Value) : ∀ (M : List (Itm × Value)) (st : List (Itm × Value) × Bool), ((M.foldl (wst z) st).1.map (·.1), (M.foldl (wst z) st).2) = (M.map (·.1)).foldl (wstI z.1) (st.1.map (·.1), st.2)
  | [], st => rfl
  | x :: M, st => by
    rw [List.foldl_cons, List.map_cons, List.foldl_cons, wfold_map z M, ← wst_map]
theorem wth_map (M : List (Itm × Value)) (z : Itm × Value) : (wth M z).map (·.1) = wthI (M.map (·.1)) z.1 := by
  have h := wfold_map z M ([], z.1.vs.isEmpty)
  unfold wth wthI
  simp only [List.map_nil] at h
  rw [← h]
  simp only
  split <;> simp
theorem wst_len (z : Itm × Value) (st : List (Itm × Value) × Bool) (x : Itm × Value) : (wst z st x).1.length ≤ st.1.length + (if (wst z st x).2 = st.2 then 1 else 2) := by
  unfold wst
  cases h1 : (x.1.k.toList == z.1.k.toList) <;> cases h2 : st.2 <;> cases h3 : lt14 x.1.k z.1.k <;> simp [h2, h3]
theorem wfold_len (z : Itm × Value) : ∀ (M : List (Itm × Value)) (st : List (Itm × Value) × Bool), (M.foldl (wst z) st).1.length + (if (M.foldl (wst z) st).2 then 0 else 1) ≤ st.1.length + M.length + (if st.2 then 0 else 1) ∧ (st.2 = true → (M.foldl (wst z) st).2 = true)
  | [], st => ⟨by obtain ⟨a, b⟩ := st; cases b <;> simp, fun h => h⟩
  | x :: M, st => by
    rw [List.foldl_cons]
    obtain ⟨h1, h2⟩ := wfold_len z M (wst z st x)
    have h3 := wst_len z st x
    have h4 : st.2 = true → (wst z st x).2 = true := fun h => by cases h1 : (x.1.k.toList == z.1.k.toList) <;> simp [wst, h, h1]
    refine ⟨?_, fun h => h2 (h4 h)⟩
    rw [List.length_cons]
    cases h5 : st.2 with
    | true =>
      rw [h4 h5] at h1 h3
      rw [h5] at h3
      simp at h1 h3 ⊢
      omega
    | false =>
      rw [h5] at h3
      cases h6 : (wst z st x).2 <;> rw [h6] at h1 h3 <;> simp at h1 h3 ⊢ <;> omega
theorem wth_len (M : List (Itm × Value)) (z : Itm × Value) : (wth M z).length ≤ M.length + 1 := by
  have h := (wfold_len z M ([], z.1.vs.isEmpty)).1
  unfold wth
  simp only [List.length_nil, Nat.zero_add] at h
  split
  · rename_i h1
    rw [h1] at h
    cases hz : z.1.vs.isEmpty <;> rw [hz] at h <;> simp at h <;> omega
  · rename_i h1
    rw [if_neg h1] at h
    rw [List.length_append]
    cases hz : z.1.vs.isEmpty <;> rw [hz] at h <;> simp at h ⊢ <;> omega
def fndI (L : List Itm) (key : ByteArray) : List Vn := match L.find? (fun p => p.k.toList == key.toList) with
  | some p => p.vs
  | none => []
theorem fndk_map (M : List (Itm × Value)) (key : ByteArray) : fndk M key = fndI (M.map (·.1)) key := by
  unfold fndk fndI
  rw [List.find?_map]
  cases h : M.find? ((fun p : Itm => p.k.toList == key.toList) ∘ (·.1)) with
  | none => rw [show M.find? (fun p => p.1.k.toList == key.toList) = none from h]; rfl
  | some p => rw [show M.find? (fun p => p.1.k.toList == key.toList) = some p from h]; rfl
/-- Items behind changes, whose versions are found among elder items. -/
def apl (I0 : List Itm) (t : Int) (L : List Cg) : List Itm := L.foldl (fun I x => wthI I ⟨x.k, (add13 (fndI I0 x.k) ⟨t, x.v, x.d⟩).1⟩) I0
theorem fnd_bound {M : List (Itm × Value)} {N : Nat} (h : ∀ p ∈ M, p.1.vs.length ≤ N) (key : ByteArray) : (fndk M key).length ≤ N := by
  unfold fndk
  cases hf : M.find? (fun p => p.1.k.toList == key.toList) with
  | none => simp
  | some p => exact h p (List.mem_of_find?_eq_some hf)
theorem mem_wst {z : Itm × Value} {st : List (Itm × Value) × Bool} {x p : Itm × Value} (h : p ∈ (wst z st x).1) : p ∈ st.1 ∨ p = z ∨ p = x := by
  unfold wst at h
  cases h1 : (x.1.k.toList == z.1.k.toList) <;> cases h2 : (!st.2 && !lt14 x.1.k z.1.k) <;> rw [h1, h2] at h <;> simp only [if_true, Bool.false_eq_true, if_false, List.mem_append, List.mem_singleton] at h
  · rcases h with h | h
    · exact .inl h
    · exact .inr (.inr h)
  · rcases h with (h | h) | h
    · exact .inl h
    · exact .inr (.inl h)
    · exact .inr (.inr h)
  · exact .inl h
  · rcases h with h | h
    · exact .inl h
    · exact .inr (.inl h)
theorem mem_wfold (z : Itm × Value) : ∀ (M : List (Itm × Value)) (st : List (Itm × Value) × Bool) (p : Itm × Value), p ∈ (M.foldl (wst z) st).1 → p ∈ st.1 ∨ p = z ∨ p ∈ M
  | [], st, p, h => .inl h
  | x :: M, st, p, h => by
    rw [List.foldl_cons] at h
    rcases mem_wfold z M _ p h with h | h | h
    · rcases mem_wst h with h | h | h
      · exact .inl h
      · exact .inr (.inl h)
      · exact .inr (.inr (by simp [h]))
    · exact .inr (.inl h)
    · exact .inr (.inr (by simp [h]))
theorem mem_wth {M : List (Itm × Value)} {z p : Itm × Value} (h : p ∈ wth M z) : p = z ∨ p ∈ M := by
  unfold wth at h
  split at h
  · rcases mem_wfold z M _ p h with h | h
    · cases h
    · exact h
  · rcases List.mem_append.1 h with h | h
    · rcases mem_wfold z M _ p h with h | h
      · cases h
      · exact h
    · exact .inl (by simpa using h)
end Go.Proofs.Ytjkfgbmlhglnfaa
