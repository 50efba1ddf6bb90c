/- Layer 8: a region that draws, state by state. -/
import Derived.Test.YtpnnbfojdccfhaaPgZb
namespace Go.Proofs.Ytpnnbfojdccfhaa
open Go.RowKit
set_option linter.unusedVariables false

/-- What is left of the region is named, and the frame: states can then be told in short. -/
theorem wpAnyH_open {P : Program} {md : Region.Mode} {ops : Array Oper} {Q : Exit → Act → World → Prop} {S : World → Prop} {fuel : Nat} {listed : Array Bool} {a : Act} {w : World}
    (h : ∀ (ST : Nat → Array Bool → Act → World → Prop) (A0 : Act), (∀ f l x X, ST f l x X ↔ wpAnyH P md ops Q S f l x X) → A0 = a → ST fuel listed A0 w) : wpAnyH P md ops Q S fuel listed a w :=
  h (fun f l x X => wpAnyH P md ops Q S f l x X) a (fun _ _ _ _ => Iff.rfl) rfl
/-- Nothing that was there has changed. -/
def TF (w0 X : World) : Prop := Turn (fun _ => False) w0 X
/-- A row of its own, made since. -/
def RS (w0 X : World) (t : Nat) (xs : List Value) (N g c : Nat) : Prop := Ro X t (.slice (some ⟨g, 0, none⟩) N c) xs g ∧ Cp (some ⟨g, 0, none⟩) N c ∧ w0.heap.size ≤ g
/-- A block, made since. -/
def BS (w0 X : World) (t g : Nat) (cs : List Value) : Prop := Blk X g t cs ∧ w0.heap.size ≤ g
def nil4 : List Value := [.bool false, .slice none 0 0, .slice none 0 0, .slice none 0 0]
theorem TF.al {w0 w X : World} {o : Obj} (h : TF w0 w) (e : X = w.alloc o) : TF w0 X := Turn.al h e
theorem RS.lt {w0 X : World} {t N g c : Nat} {xs : List Value} (h : RS w0 X t xs N g c) : g < X.heap.size := h.1.lt
theorem BS.lt {w0 X : World} {t g : Nat} {xs : List Value} (h : BS w0 X t g xs) : g < X.heap.size := h.1.lt
theorem RS.al {w0 w X : World} {t N g c : Nat} {xs : List Value} {o : Obj} (h : RS w0 w t xs N g c) (e : X = w.alloc o) : RS w0 X t xs N g c := ⟨h.1.al e, h.2⟩
theorem BS.al {w0 w X : World} {t g : Nat} {xs : List Value} {o : Obj} (h : BS w0 w t g xs) (e : X = w.alloc o) : BS w0 X t g xs := ⟨h.1.al e, h.2⟩
theorem RS.tn {w0 w X : World} {t N g c q : Nat} {xs : List Value} (h : RS w0 w t xs N g c) (ht : Turn (fun k => k = q) w X) (d : ¬ g = q) : RS w0 X t xs N g c := ⟨h.1.turn ht d, h.2⟩
theorem BS.tn {w0 w X : World} {t g q : Nat} {xs : List Value} (h : BS w0 w t g xs) (ht : Turn (fun k => k = q) w X) (d : ¬ g = q) : BS w0 X t g xs := ⟨h.1.turn ht d, h.2⟩
theorem RS.emS {w0 w X : World} (h : TF w0 w) (e : X = w.alloc (.cells #[] 9)) : RS w0 X 9 (([] : List ByteArray).map Value.string) 0 w.heap.size 0 := ⟨Ro.empS e, ⟨Nat.le_refl _, by unfold maxLen; decide, fun h => by cases h⟩, h.size⟩
theorem RS.emI {w0 w X : World} (h : TF w0 w) (e : X = w.alloc (.cells #[] 3)) : RS w0 X 3 (([] : List Int).map (Value.int .i64)) 0 w.heap.size 0 := ⟨Ro.empI e, ⟨Nat.le_refl _, by unfold maxLen; decide, fun h => by cases h⟩, h.size⟩
theorem BS.nw {w0 w X : World} {t : Nat} {cs : List Value} (h : TF w0 w) (e : X = w.alloc (.cells cs.toArray t)) : BS w0 X t w.heap.size cs := ⟨Blk.nw e, h.size⟩
/-- A block that an append gives is none of the others. -/
theorem apn {g' g s q : Nat} (hg : g' = g ∨ g' = s) (d : ¬ g = q) (l : q < s) : ¬ g' = q := by omega
theorem nsy {a b : Nat} (d : ¬ a = b) : ¬ b = a := fun h => d h.symm
theorem aln {q s : Nat} (l : q < s) : ¬ q = s := by omega
theorem one_cp (g : Nat) : Cp (some ⟨g, 0, none⟩) 1 1 := ⟨Nat.le_refl _, by unfold maxLen; decide, fun h => by cases h⟩
theorem step_appS {w0 w : World} {ops : Array Oper} {o : Oper} {a : Act} {K : Act → World → Prop} {Q : Exit → Act → World → Prop} {E : Prop} (hw : Region.wanted o (yielded ops a.tmps) = true) (s y : Operand)
    (ho : o.op = .call { callee := .builtin .append, args := #[s, y], argTypes := #[23, 23] })
    (l m l' : List ByteArray) (g c0 n0 : Nat) (A : Option Addr) (n c N : Nat) (hn : m.length = n) (hL : l ++ m = l') (hN : l'.length = N) (hb : l'.length ≤ 100000) (hs : a.eval s = .slice (some ⟨g, 0, none⟩) n0 c0) (hy : a.eval y = .slice A n c) (hT : TF w0 w) (hR : RS w0 w 9 (l.map Value.string) n0 g c0) (hx : Sr w A m) (hcp : Cp A n c)
    (h : ∀ g' c' X, RS w0 X 9 (l'.map Value.string) N g' c' → Turn (fun k => k = g) w X → (g' = g ∨ g' = w.heap.size) → TF w0 X → K (a.put o.dst (.slice (some ⟨g', 0, none⟩) N c')) X) : if Region.wanted o (yielded ops a.tmps) = true then Oper.wp Try.prog o a w K Q else E := by
  subst hL
  refine step_app_strsR hw s y ho _ l m g A n c N hn hN hs hy hR.1 hx hcp (by rw [← List.length_append]; exact hb) (fun g' c' w' hg hr hc ht => ?_)
  have hsz := hT.size
  have hlo := hR.2.2
  exact h g' c' w' ⟨hr, hc, by omega⟩ ht hg (Turn.trans_new hT ht (fun k hk e => by omega))
theorem step_appI {w0 w : World} {ops : Array Oper} {o : Oper} {a : Act} {K : Act → World → Prop} {Q : Exit → Act → World → Prop} {E : Prop} (hw : Region.wanted o (yielded ops a.tmps) = true) (s y : Operand)
    (ho : o.op = .call { callee := .builtin .append, args := #[s, y], argTypes := #[24, 24] })
    (l m l' : List Int) (g c0 n0 : Nat) (A : Option Addr) (n c N : Nat) (hn : m.length = n) (hL : l ++ m = l') (hN : l'.length = N) (hb : l'.length ≤ 100000) (hs : a.eval s = .slice (some ⟨g, 0, none⟩) n0 c0) (hy : a.eval y = .slice A n c) (hT : TF w0 w) (hR : RS w0 w 3 (l.map (Value.int .i64)) n0 g c0) (hx : Nr w A m) (hcp : Cp A n c)
    (h : ∀ g' c' X, RS w0 X 3 (l'.map (Value.int .i64)) N g' c' → Turn (fun k => k = g) w X → (g' = g ∨ g' = w.heap.size) → TF w0 X → K (a.put o.dst (.slice (some ⟨g', 0, none⟩) N c')) X) : if Region.wanted o (yielded ops a.tmps) = true then Oper.wp Try.prog o a w K Q else E := by
  subst hL
  refine step_app_intsR hw s y ho _ l m g A n c N hn hN hs hy hR.1 hx hcp (by rw [← List.length_append]; exact hb) (fun g' c' w' hg hr hc ht => ?_)
  have hsz := hT.size
  have hlo := hR.2.2
  exact h g' c' w' ⟨hr, hc, by omega⟩ ht hg (Turn.trans_new hT ht (fun k hk e => by omega))
theorem oA {w : World} {ops : Array Oper} {o : Oper} {a : Act} {K : Act → World → Prop} {Q : Exit → Act → World → Prop} {E : Prop} (hw : Region.wanted o (yielded ops a.tmps) = true) (ho : o.op = .alloc 26) 
    (h : K (a.put o.dst (.pointer (some ⟨w.heap.size, 0, none⟩))) (w.alloc (.cells #[.bool false, .slice none 0 0, .slice none 0 0, .slice none 0 0] 26))) : if Region.wanted o (yielded ops a.tmps) = true then Oper.wp Try.prog o a w K Q else E := by
  rw [if_pos hw]
  unfold Oper.wp execOp
  rw [ho]
  go_simp
  exact h
theorem oS {w : World} {ops : Array Oper} {o : Oper} {a : Act} {K : Act → World → Prop} {Q : Exit → Act → World → Prop} {E : Prop} (hw : Region.wanted o (yielded ops a.tmps) = true) (ho : o.op = .buildSlice 23 0 #[]) 
    (h : K (a.put o.dst (.slice (some ⟨w.heap.size, 0, none⟩) 0 0)) (w.alloc (.cells #[] 9))) : if Region.wanted o (yielded ops a.tmps) = true then Oper.wp Try.prog o a w K Q else E := by
  rw [if_pos hw]
  unfold Oper.wp execOp
  rw [ho]
  go_simp
  exact h
theorem oI {w : World} {ops : Array Oper} {o : Oper} {a : Act} {K : Act → World → Prop} {Q : Exit → Act → World → Prop} {E : Prop} (hw : Region.wanted o (yielded ops a.tmps) = true) (ho : o.op = .buildSlice 24 0 #[]) 
    (h : K (a.put o.dst (.slice (some ⟨w.heap.size, 0, none⟩) 0 0)) (w.alloc (.cells #[] 3))) : if Region.wanted o (yielded ops a.tmps) = true then Oper.wp Try.prog o a w K Q else E := by
  rw [if_pos hw]
  unfold Oper.wp execOp
  rw [ho]
  go_simp
  exact h
theorem oS1 {w : World} {ops : Array Oper} {o : Oper} {a : Act} {K : Act → World → Prop} {Q : Exit → Act → World → Prop} {E : Prop} (hw : Region.wanted o (yielded ops a.tmps) = true) (k : Nat) (s : ByteArray) (ho : o.op = .buildSlice 23 1 #[(0, .tmp k)]) (he : a.eval (.tmp k) = .string s)
    (h : K (a.put o.dst (.slice (some ⟨w.heap.size, 0, none⟩) 1 1)) (w.alloc (.cells #[.string s] 9))) : if Region.wanted o (yielded ops a.tmps) = true then Oper.wp Try.prog o a w K Q else E := by
  rw [if_pos hw]
  unfold Oper.wp execOp
  rw [ho]
  simp only [List.map_toArray, List.map_cons, List.map_nil, he]
  go_simp
  exact h
theorem oI1 {w : World} {ops : Array Oper} {o : Oper} {a : Act} {K : Act → World → Prop} {Q : Exit → Act → World → Prop} {E : Prop} (hw : Region.wanted o (yielded ops a.tmps) = true) (k : Nat) (z : Int) (ho : o.op = .buildSlice 24 1 #[(0, .tmp k)]) (he : a.eval (.tmp k) = .int .i64 z)
    (h : K (a.put o.dst (.slice (some ⟨w.heap.size, 0, none⟩) 1 1)) (w.alloc (.cells #[.int .i64 z] 3))) : if Region.wanted o (yielded ops a.tmps) = true then Oper.wp Try.prog o a w K Q else E := by
  rw [if_pos hw]
  unfold Oper.wp execOp
  rw [ho]
  simp only [List.map_toArray, List.map_cons, List.map_nil, he]
  go_simp
  exact h
/-- The same, shut, for states. -/
structure HT (w0 X : World) : Prop where out : TF w0 X
structure HS (w0 X : World) (L : List ByteArray) (N g c : Nat) : Prop where out : RS w0 X 9 (L.map Value.string) N g c
structure HJ (w0 X : World) (L : List Int) (N g c : Nat) : Prop where out : RS w0 X 3 (L.map (Value.int .i64)) N g c
structure HB (w0 X : World) (t g : Nat) (cs : List Value) : Prop where out : BS w0 X t g cs
theorem HT.al {w0 w X : World} {o : Obj} (h : HT w0 w) (e : X = w.alloc o) : HT w0 X := ⟨h.out.al e⟩
theorem HS.al {w0 w X : World} {L : List ByteArray} {N g c : Nat} {o : Obj} (h : HS w0 w L N g c) (e : X = w.alloc o) : HS w0 X L N g c := ⟨h.out.al e⟩
theorem HJ.al {w0 w X : World} {L : List Int} {N g c : Nat} {o : Obj} (h : HJ w0 w L N g c) (e : X = w.alloc o) : HJ w0 X L N g c := ⟨h.out.al e⟩
theorem HB.al {w0 w X : World} {t g : Nat} {cs : List Value} {o : Obj} (h : HB w0 w t g cs) (e : X = w.alloc o) : HB w0 X t g cs := ⟨h.out.al e⟩
theorem HS.tn {w0 w X : World} {L : List ByteArray} {N g c q : Nat} (h : HS w0 w L N g c) (ht : Turn (fun k => k = q) w X) (d : ¬ g = q) : HS w0 X L N g c := ⟨h.out.tn ht d⟩
theorem HJ.tn {w0 w X : World} {L : List Int} {N g c q : Nat} (h : HJ w0 w L N g c) (ht : Turn (fun k => k = q) w X) (d : ¬ g = q) : HJ w0 X L N g c := ⟨h.out.tn ht d⟩
theorem HB.tn {w0 w X : World} {t g q : Nat} {cs : List Value} (h : HB w0 w t g cs) (ht : Turn (fun k => k = q) w X) (d : ¬ g = q) : HB w0 X t g cs := ⟨h.out.tn ht d⟩
theorem HS.lt {w0 X : World} {L : List ByteArray} {N g c : Nat} (h : HS w0 X L N g c) : g < X.heap.size := h.out.lt
theorem HJ.lt {w0 X : World} {L : List Int} {N g c : Nat} (h : HJ w0 X L N g c) : g < X.heap.size := h.out.lt
theorem HB.lt {w0 X : World} {t g : Nat} {cs : List Value} (h : HB w0 X t g cs) : g < X.heap.size := h.out.lt
theorem HT.eS {w0 w X : World} (h : HT w0 w) (e : X = w.alloc (.cells #[] 9)) : HS w0 X [] 0 w.heap.size 0 := ⟨RS.emS h.out e⟩
theorem HT.eI {w0 w X : World} (h : HT w0 w) (e : X = w.alloc (.cells #[] 3)) : HJ w0 X [] 0 w.heap.size 0 := ⟨RS.emI h.out e⟩
theorem HT.nw {w0 w X : World} {t : Nat} (h : HT w0 w) (cs : List Value) (e : X = w.alloc (.cells cs.toArray t)) : HB w0 X t w.heap.size cs := ⟨BS.nw h.out e⟩
theorem sT {w0 w : World} {ops : Array Oper} {o : Oper} {a : Act} {K : Act → World → Prop} {Q : Exit → Act → World → Prop} {E : Prop} (hw : Region.wanted o (yielded ops a.tmps) = true) (s y : Operand)
    (ho : o.op = .call { callee := .builtin .append, args := #[s, y], argTypes := #[23, 23] })
    (l m l' : List ByteArray) (g c0 n0 : Nat) (A : Option Addr) (n c N : Nat) (hn : m.length = n) (hL : l ++ m = l') (hN : l'.length = N) (hb : l'.length ≤ 100000) (hs : a.eval s = .slice (some ⟨g, 0, none⟩) n0 c0) (hy : a.eval y = .slice A n c) (hT : HT w0 w) (hR : HS w0 w l n0 g c0) (hx : Sr w A m) (hcp : Cp A n c)
    (h : ∀ g' c' X, HS w0 X l' N g' c' → Turn (fun k => k = g) w X → (g' = g ∨ g' = w.heap.size) → HT w0 X → K (a.put o.dst (.slice (some ⟨g', 0, none⟩) N c')) X) : if Region.wanted o (yielded ops a.tmps) = true then Oper.wp Try.prog o a w K Q else E :=
  step_appS hw s y ho l m l' g c0 n0 A n c N hn hL hN hb hs hy hT.out hR.out hx hcp (fun g' c' X r ht hg t => h g' c' X ⟨r⟩ ht hg ⟨t⟩)
theorem sI {w0 w : World} {ops : Array Oper} {o : Oper} {a : Act} {K : Act → World → Prop} {Q : Exit → Act → World → Prop} {E : Prop} (hw : Region.wanted o (yielded ops a.tmps) = true) (s y : Operand)
    (ho : o.op = .call { callee := .builtin .append, args := #[s, y], argTypes := #[24, 24] })
    (l m l' : List Int) (g c0 n0 : Nat) (A : Option Addr) (n c N : Nat) (hn : m.length = n) (hL : l ++ m = l') (hN : l'.length = N) (hb : l'.length ≤ 100000) (hs : a.eval s = .slice (some ⟨g, 0, none⟩) n0 c0) (hy : a.eval y = .slice A n c) (hT : HT w0 w) (hR : HJ w0 w l n0 g c0) (hx : Nr w A m) (hcp : Cp A n c)
    (h : ∀ g' c' X, HJ w0 X l' N g' c' → Turn (fun k => k = g) w X → (g' = g ∨ g' = w.heap.size) → HT w0 X → K (a.put o.dst (.slice (some ⟨g', 0, none⟩) N c')) X) : if Region.wanted o (yielded ops a.tmps) = true then Oper.wp Try.prog o a w K Q else E :=
  step_appI hw s y ho l m l' g c0 n0 A n c N hn hL hN hb hs hy hT.out hR.out hx hcp (fun g' c' X r ht hg t => h g' c' X ⟨r⟩ ht hg ⟨t⟩)
end Go.Proofs.Ytpnnbfojdccfhaa
