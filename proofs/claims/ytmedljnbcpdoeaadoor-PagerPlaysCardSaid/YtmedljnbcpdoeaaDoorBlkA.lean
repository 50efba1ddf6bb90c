/- Layer 4: a disk as the document has it, plain; and how it lies in memory. -/
import Derived.Test.YtmedljnbcpdoeaaDoorKern
import Derived.Deep.MidRow
import Derived.Maps.OwnSet
import Derived.Maps.OwnOps
import Derived.Maps.Views
namespace Go.Proofs.YtmedljnbcpdoeaaDoor
open Go.RowKit Go.Maps
set_option linter.unusedVariables false

/-- Sectors as they are kept, writes that are pending (to which, what), the fuse (below 0: none), is it dead? -/
structure Dsk where
  kept : List (List UInt8)
  pend : List (Nat × List UInt8)
  fuse : Int
  dead : Bool

/-- What a sector has behind writes. -/
def overw (l : List (Nat × List UInt8)) (i : Nat) (s : List UInt8) : List UInt8 := l.foldl (fun s x => if x.1 = i then x.2 else s) s
/-- The number of the last one to a sector. -/
def lastw (l : List (Nat × List UInt8)) (i : Nat) : Option Nat := (l.zipIdx).foldl (fun o x => if x.1.1 = i then some x.2 else o) none
theorem overw_snoc (l : List (Nat × List UInt8)) (x : Nat × List UInt8) (i : Nat) (s : List UInt8) : overw (l ++ [x]) i s = if x.1 = i then x.2 else overw l i s := by simp [overw]
theorem overw_app (l m : List (Nat × List UInt8)) (i : Nat) (s : List UInt8) : overw (l ++ m) i s = overw m i (overw l i s) := by simp [overw]
theorem overw_cons (l : List (Nat × List UInt8)) (x : Nat × List UInt8) (i : Nat) (s : List UInt8) : overw (x :: l) i s = overw l i (if x.1 = i then x.2 else s) := rfl
theorem lastw_snoc (l : List (Nat × List UInt8)) (x : Nat × List UInt8) (i : Nat) : lastw (l ++ [x]) i = if x.1 = i then some l.length else lastw l i := by
  simp [lastw, List.zipIdx_append]
theorem snoc_ind {α : Type} {p : List α → Prop} (h0 : p []) (h1 : ∀ l x, p l → p (l ++ [x])) (l : List α) : p l := by
  have : ∀ n (l : List α), l.length = n → p l := by
    intro n
    induction n with
    | zero => intro l hl; rw [List.eq_nil_of_length_eq_zero hl]; exact h0
    | succ n ih =>
      intro l hl
      have hne : l ≠ [] := by intro e; subst e; simp at hl
      rw [← List.dropLast_concat_getLast hne]
      exact h1 _ _ (ih _ (by simp [hl]))
  exact this _ l rfl
theorem lastw_none {l : List (Nat × List UInt8)} {i : Nat} (s : List UInt8) (h : lastw l i = none) : overw l i s = s := by
  induction l using snoc_ind with
  | h0 => rfl
  | h1 l x ih =>
    rw [lastw_snoc] at h
    split at h
    · cases h
    · rw [overw_snoc, if_neg (by assumption)]; exact ih h
theorem lastw_some {l : List (Nat × List UInt8)} {i n : Nat} (s : List UInt8) (h : lastw l i = some n) : ∃ x, l[n]? = some x ∧ x.1 = i ∧ x.2 = overw l i s := by
  induction l using snoc_ind with
  | h0 => cases h
  | h1 l x ih =>
    rw [lastw_snoc] at h
    rw [overw_snoc]
    split at h
    · rename_i hx
      cases h
      exact ⟨x, by simp, hx, by rw [if_pos hx]⟩
    · rename_i hx
      obtain ⟨y, hy, h1, h2⟩ := ih h
      refine ⟨y, ?_, h1, by rw [if_neg hx]; exact h2⟩
      rw [List.getElem?_append_left (List.getElem?_eq_some_iff.1 hy).1]
      exact hy
/-- What the index of last writes reads as. -/
def nw (l : List (Nat × List UInt8)) : DataW Unit := (l.zipIdx).foldl (fun m x => m.put (.int .i64 (x.1.1 : Int)) (.lit (.int .i64 (x.2 : Int)))) (.map [])
theorem nw_snoc (l : List (Nat × List UInt8)) (x : Nat × List UInt8) : nw (l ++ [x]) = (nw l).put (.int .i64 (x.1 : Int)) (.lit (.int .i64 (l.length : Int))) := by
  simp [nw, List.zipIdx_append]
theorem nw_isMap (l : List (Nat × List UInt8)) : IsMap (nw l) := by
  induction l using snoc_ind with
  | h0 => exact isMap_empty
  | h1 l x ih => rw [nw_snoc]; exact ih.put _ _
theorem nw_at (l : List (Nat × List UInt8)) (i : Nat) : Maps.has (nw l) (.int .i64 (i : Int)) = (lastw l i).isSome ∧ (nw l).atKey (.int .i64 (i : Int)) (.lit (.int .i64 0)) = .lit (.int .i64 ((lastw l i).getD 0 : Nat)) := by
  induction l using snoc_ind with
  | h0 => exact ⟨rfl, rfl⟩
  | h1 l x ih =>
    rw [nw_snoc, lastw_snoc]
    by_cases hx : x.1 = i
    · subst hx
      rw [if_pos rfl]
      exact ⟨has_put_same (nw_isMap l) (by simp [WideAt.IsKeyLit]) _, atKey_put_same (nw_isMap l) (by simp [WideAt.IsKeyLit]) _ _⟩
    · rw [if_neg hx]
      have hne : (Lit.int .i64 (i : Int)) ≠ .int .i64 (x.1 : Int) := by intro e; injection e with _ e; omega
      rw [has_put_other hne, atKey_put_other hne]
      exact ih

/-- A pending write's cells. -/
def wv (x : Nat × List UInt8) : List Value := bv x.2 ++ [.int .i64 (x.1 : Int)]
theorem len_flat {α : Type} (f : α → List Value) (k : Nat) : ∀ l : List α, (∀ x ∈ l, (f x).length = k) → (l.flatMap f).length = l.length * k
  | [], _ => by simp
  | x :: l, h => by
    rw [List.flatMap_cons, List.length_append, h x (by simp), len_flat f k l (fun y hy => h y (by simp [hy])), List.length_cons, Nat.succ_mul, Nat.add_comm]
theorem flat_at {α : Type} (f : α → List Value) (k : Nat) : ∀ (l : List α), (∀ x ∈ l, (f x).length = k) → ∀ (n j : Nat) (x : α), l[n]? = some x → j < k → (l.flatMap f)[n * k + j]? = (f x)[j]?
  | y :: l, h, 0, j, x, hx, hj => by
    obtain rfl : y = x := by simpa using hx
    rw [Nat.zero_mul, Nat.zero_add, List.flatMap_cons, List.getElem?_append_left (by rw [h y (by simp)]; exact hj)]
  | y :: l, h, n + 1, j, x, hx, hj => by
    rw [List.flatMap_cons, List.getElem?_append_right (by rw [h y (by simp), Nat.succ_mul]; omega), h y (by simp), show (n + 1) * k + j - k = n * k + j from by rw [Nat.succ_mul]; omega]
    exact flat_at f k l (fun z hz => h z (by simp [hz])) n j x (by simpa using hx) hj
theorem flat_set {α : Type} (f : α → List Value) (k : Nat) : ∀ (l : List α), (∀ x ∈ l, (f x).length = k) → ∀ (n : Nat) (x : α), n < l.length → (f x).length = k → (l.set n x).flatMap f = (l.flatMap f).take (n * k) ++ f x ++ (l.flatMap f).drop (n * k + k)
  | y :: l, h, 0, x, hn, hx => by
    have hy := h y (by simp)
    simp [List.flatMap_cons, hy]
  | y :: l, h, n + 1, x, hn, hx => by
    have hy := h y (by simp)
    rw [List.set_cons_succ, List.flatMap_cons, List.flatMap_cons, flat_set f k l (fun z hz => h z (by simp [hz])) n x (by simpa using hn) hx]
    have h1 : (f y).take ((n + 1) * k) = f y := List.take_of_length_le (by rw [hy, Nat.succ_mul]; omega)
    have h2 : (f y).drop ((n + 1) * k + k) = [] := List.drop_eq_nil_of_le (by rw [hy, Nat.succ_mul]; omega)
    rw [List.take_append, List.drop_append, hy, h1, h2]
    rw [show (n + 1) * k - k = n * k from by rw [Nat.succ_mul]; omega, show (n + 1) * k + k - k = n * k + k from by rw [Nat.succ_mul]; omega]
    simp
theorem one_bv (l : List UInt8) : ∀ u ∈ bv l, u.oneCell' = true := bv_one l
theorem one_wv (x : Nat × List UInt8) : ∀ u ∈ wv x, u.oneCell' = true := fun u hu => by
  rcases List.mem_append.1 hu with h | h
  · exact bv_one _ u h
  · simp at h; subst h; rfl
theorem len_wv {x : Nat × List UInt8} (h : x.2.length = 128) : (wv x).length = 129 := by simp [wv, len_bv, h]

structure Dsk.Ok (D : Dsk) : Prop where
  pos : 0 < D.kept.length
  most : D.kept.length ≤ 16384
  kept : ∀ s ∈ D.kept, s.length = 128
  pend : ∀ x ∈ D.pend, x.1 < D.kept.length ∧ x.2.length = 128
  fuse : -1 ≤ D.fuse ∧ D.fuse ≤ 9223372036854775807
theorem Dsk.Ok.lenk {D : Dsk} (h : D.Ok) : ∀ s ∈ D.kept, (bv s).length = 128 := fun s hs => by rw [len_bv]; exact h.kept s hs
theorem Dsk.Ok.lenp {D : Dsk} (h : D.Ok) : ∀ x ∈ D.pend, (wv x).length = 129 := fun x hx => len_wv (h.pend x hx).2
theorem overw_len {l : List (Nat × List UInt8)} (hl : ∀ x ∈ l, x.2.length = 128) (i : Nat) {s : List UInt8} (hs : s.length = 128) : (overw l i s).length = 128 := by
  induction l using snoc_ind with
  | h0 => exact hs
  | h1 l x ih =>
    rw [overw_snoc]
    split
    · exact hl x (by simp)
    · exact ih fun y hy => hl y (by simp [hy])

theorem law_int : Keyed Tryd.prog 3 := int_keyed Tryd.underlying3
abbrev Nw (w : World) (g n : Nat) (l : List (Nat × List UInt8)) : Prop := w.ownsMap Tryd.prog 3 (plainElem Tryd.prog 3) g n (nw l)

/-- Of a block's turn: the map's too. -/
theorem Nw.turn {w w' : World} {g n : Nat} {l : List (Nat × List UInt8)} {S : Nat → Prop} (h : Nw w g n l) (hb : Turn S w w') (hg : ¬ S g) : Nw w' g n l :=
  h.elim fun es ⟨c, h1, h2⟩ => ⟨es, c, (hb.block g (World.ownsMap.lt h) hg).trans h1, h2⟩
end Go.Proofs.YtmedljnbcpdoeaaDoor
