/- Layer 16: what the document's Span holds as it goes (plain, and the boxes). -/
import Derived.Test.YtjkfgbmlhglnfaaRdU
import Derived.Test.YtjkfgbmlhglnfaaRdI
namespace Go.Proofs.Ytjkfgbmlhglnfaa
open Go.RowKit Go.Shelf
set_option linter.unusedVariables false
set_option linter.unusedSimpArgs false
set_option maxRecDepth 100000
attribute [local go_sem] Oper.semAt_some

theorem apt_asym {x s : Pq2} (hx : some16 x = true) (hs : some16 s = true) (h : apt16 x s = true) : apt16 s x = false := by
  unfold apt16 some16 at *
  have tr := @lt14_trans
  have ir := @lt14_self
  generalize s.k = a at *
  generalize s.v = b at *
  generalize x.k = c at *
  generalize x.v = d at *
  grind
/-- What the fold tells yet: behind the spans ahead. -/
def sp16 (fl : Bool) (B : List Pq2) (x : Pq2) (rest : List Pq2) : List Pq2 := if fl then x :: (B ++ rest) else tog16 rest x
theorem sp_ahead {x y : Pq2} {l : List Pq2} (h : apt16 y x = true) : sp16 false [] x (y :: l) = y :: sp16 false [] x l := by
  simp [sp16, tog16, h]
theorem sp_behind0 {x y : Pq2} {l : List Pq2} (h : apt16 y x = false) (h2 : apt16 x y = true) : sp16 false [] x (y :: l) = sp16 true [y] x l := by
  simp [sp16, tog16, h, h2]
theorem sp_behind {x y : Pq2} {B l : List Pq2} : sp16 true B x (y :: l) = sp16 true (B ++ [y]) x l := by
  simp [sp16]
theorem sp_join {x y : Pq2} {l : List Pq2} (h : apt16 y x = false) (h2 : apt16 x y = false) : sp16 false [] x (y :: l) = sp16 false [] (mrg16 x y) l := by
  simp [sp16, tog16, h, h2]
theorem sp_end {fl : Bool} {B : List Pq2} {x : Pq2} (h : fl = false → B = []) : sp16 fl B x [] = x :: B := by
  cases fl with
  | true => simp [sp16]
  | false => rw [h rfl]; simp [sp16, tog16]
/-- A span's end, as the document moves it. -/
theorem fur_doc (a b : ByteArray) : fur16 a b = if em16 b then b else if em16 a then a else if lt14 a b then b else a := by
  unfold fur16
  cases hb : em16 b with
  | true => simp; exact em_eq em_new hb
  | false =>
    cases ha : em16 a with
    | true => simp; exact em_eq em_new ha
    | false => simp
theorem Szd.mn {a b : ByteArray} (ha : Szd a) (hb : Szd b) : Szd (mn16 a b) := by unfold mn16; split <;> assumption
theorem Szd.fur {a b : ByteArray} (ha : Szd a) (hb : Szd b) : Szd (fur16 a b) := by
  rw [fur_doc]
  split
  · exact hb
  · split
    · exact ha
    · split <;> assumption
theorem tog_szd : ∀ (S : List Pq2) (s : Pq2), (∀ x ∈ S, Szd x.k ∧ Szd x.v) → (Szd s.k ∧ Szd s.v) → ∀ x ∈ tog16 S s, Szd x.k ∧ Szd x.v
  | [], s, _, hs, x, hx => by simp [tog16] at hx; subst hx; exact hs
  | y :: l, s, h, hs, x, hx => by
    unfold tog16 at hx
    split at hx
    · rcases List.mem_cons.1 hx with rfl | hx
      · exact h _ (by simp)
      · exact tog_szd l s (fun z hz => h z (by simp [hz])) hs x hx
    · split at hx
      · rcases List.mem_cons.1 hx with rfl | hx
        · exact hs
        · exact h x hx
      · exact tog_szd l _ (fun z hz => h z (by simp [hz])) ⟨hs.1.mn (h y (by simp)).1, hs.2.fur (h y (by simp)).2⟩ x hx
/-- What the document's Span holds: the box of what came in, the result's box, the span's box, two rows of its own. -/
structure Sg16 (w X : World) (q : Nat) (r0 r1 : Value) (x : Pq2) (va vb : Value) (O B : List Pq2) : Prop where
  b : Blk X w.heap.size 46 [r0, r1]
  g : Blk X (w.heap.size + 1) 46 [.slice none 0 0, .slice none 0 0]
  x : Blk X q 59 [.string x.k, .string x.v]
  oa : So16 (q + 1) X va O
  ob : So16 (q + 1) X vb B
  ne : ∀ k, va.ownBlock = some k → vb.ownBlock ≠ some k
  t : Turn (fun _ => False) w X
  q : w.heap.size + 2 ≤ q
section
variable {w X X' : World} {q : Nat} {r0 r1 va va' vb vb' : Value} {x x' : Pq2} {O O' B B' : List Pq2}
theorem Sg16.still (h : Sg16 w X q r0 r1 x va vb O B) (ht : Turn (fun _ => False) X X') : Sg16 w X' q r0 r1 x va vb O B :=
  ⟨h.b.turn ht (fun e => e), h.g.turn ht (fun e => e), h.x.turn ht (fun e => e), own_still_ h.oa ht, own_still_ h.ob ht, h.ne, h.t.trans ht, h.q⟩
theorem Sg16.owa (h : Sg16 w X q r0 r1 x va vb O B) : ∀ k, va.ownBlock = some k → q + 1 ≤ k ∧ k < X.heap.size := fun k hk => own_ge9 h.oa k hk
theorem Sg16.owb (h : Sg16 w X q r0 r1 x va vb O B) : ∀ k, vb.ownBlock = some k → q + 1 ≤ k ∧ k < X.heap.size := fun k hk => own_ge9 h.ob k hk
theorem Sg16.appa (h : Sg16 w X q r0 r1 x va vb O B) (ho : So16 (q + 1) X' va' O') (ht : Turn (fun k => va.ownBlock = some k) X X') (hv : va'.ownBlock = va.ownBlock ∨ va'.ownBlock = some X.heap.size) : Sg16 w X' q r0 r1 x va' vb O' B :=
  ⟨h.b.turn ht (fun e => by have := h.owa _ e; have := h.q; omega), h.g.turn ht (fun e => by have := h.owa _ e; have := h.q; omega), h.x.turn ht (fun e => by have := h.owa _ e; have := h.q; omega), ho, own_tn16 h.ob ht (fun k hk e => h.ne k e hk), fun k hk e => by
    rcases hv with hv | hv
    · rw [hv] at hk; exact h.ne k hk e
    · rw [hv] at hk; injection hk with hk; have := (h.owb k e).2; omega, h.t.trans_new ht (fun k hk e => by have := h.owa _ e; have := h.q; omega), h.q⟩
theorem Sg16.appb (h : Sg16 w X q r0 r1 x va vb O B) (ho : So16 (q + 1) X' vb' B') (ht : Turn (fun k => vb.ownBlock = some k) X X') (hv : vb'.ownBlock = vb.ownBlock ∨ vb'.ownBlock = some X.heap.size) : Sg16 w X' q r0 r1 x va vb' O B' :=
  ⟨h.b.turn ht (fun e => by have := h.owb _ e; have := h.q; omega), h.g.turn ht (fun e => by have := h.owb _ e; have := h.q; omega), h.x.turn ht (fun e => by have := h.owb _ e; have := h.q; omega), own_tn16 h.oa ht (fun k hk e => h.ne k hk e), ho, fun k hk e => by
    rcases hv with hv | hv
    · rw [hv] at e; exact h.ne k hk e
    · rw [hv] at e; injection e with e; have := (h.owa k hk).2; omega, h.t.trans_new ht (fun k hk e => by have := h.owb _ e; have := h.q; omega), h.q⟩
theorem Sg16.putk (h : Sg16 w X q r0 r1 x va vb O B) (s : ByteArray) : Sg16 w (X.setCell ⟨q, 0, none⟩ (.string s)) q r0 r1 ⟨s, x.v⟩ va vb O B := by
  have ht : Turn (fun k => k = q) X (X.setCell ⟨q, 0, none⟩ (.string s)) := Turn.setCell (Turn.refl (fun k => k = q) X) (p := ⟨q, 0, none⟩) (.inl rfl) (.string s)
  exact ⟨h.b.turn ht (fun e => by have := h.q; omega), h.g.turn ht (fun e => by have := h.q; omega), h.x.put 0 (.string s), own_tn16 h.oa ht (fun k hk e => by have := h.owa _ hk; omega), own_tn16 h.ob ht (fun k hk e => by have := h.owb _ hk; omega), h.ne, h.t.trans_new ht (fun k hk e => by have := h.q; omega), h.q⟩
theorem Sg16.putv (h : Sg16 w X q r0 r1 x va vb O B) (s : ByteArray) : Sg16 w (X.setCell ⟨q, 1, none⟩ (.string s)) q r0 r1 ⟨x.k, s⟩ va vb O B := by
  have ht : Turn (fun k => k = q) X (X.setCell ⟨q, 1, none⟩ (.string s)) := Turn.setCell (Turn.refl (fun k => k = q) X) (p := ⟨q, 1, none⟩) (.inl rfl) (.string s)
  exact ⟨h.b.turn ht (fun e => by have := h.q; omega), h.g.turn ht (fun e => by have := h.q; omega), h.x.put 1 (.string s), own_tn16 h.oa ht (fun k hk e => by have := h.owa _ hk; omega), own_tn16 h.ob ht (fun k hk e => by have := h.owb _ hk; omega), h.ne, h.t.trans_new ht (fun k hk e => by have := h.q; omega), h.q⟩
end
end Go.Proofs.Ytjkfgbmlhglnfaa
