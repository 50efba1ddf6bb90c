/- Layer 8: rows of their own by their block: made empty, appended to, as steps of a region that draws. -/
import Derived.Test.YtpnnbfojdccfhaaPgZa
import Derived.Maps.AppendAt
import Derived.Deep.RegionHeld3
import Derived.Deep.CutRange
import Derived.Deep.DeepCutAuto
namespace Go.Proofs.Ytpnnbfojdccfhaa
open Go.RowKit
set_option linter.unusedVariables false
set_option maxRecDepth 100000

/-- A row of one-cell values that lies in block g alone. -/
def Ro (w : World) (t : Nat) (v : Value) (xs : List Value) (g : Nat) : Prop := w.ownsRow g t 1 v xs.length xs ∧ v.ownBlock = some g ∧ g < w.heap.size
theorem Ro.lt {w : World} {t g : Nat} {v : Value} {xs : List Value} (h : Ro w t v xs g) : g < w.heap.size := h.2.2
theorem Ro.turn {w w' : World} {t g : Nat} {v : Value} {xs : List Value} {S : Nat → Prop} (h : Ro w t v xs g) (ht : Turn S w w') (hg : ¬ S g) : Ro w' t v xs g := by
  obtain ⟨h1, h2, h3⟩ := h
  refine ⟨?_, h2, Nat.lt_of_lt_of_le h3 ht.size⟩
  obtain ⟨hx, ⟨e, hn⟩ | ⟨q, c, cur, e, hB, hr, hh⟩⟩ := h1
  · exact ⟨hx, .inl ⟨e, hn⟩⟩
  · have hq : q = g := by rw [e] at h2; simpa [Value.ownBlock] using h2
    subst hq
    exact ⟨hx, .inr ⟨q, c, cur, e, hB, (ht.block q h3 hg).trans hr, hh⟩⟩
theorem Ro.alloc {w : World} {t g : Nat} {v : Value} {xs : List Value} (h : Ro w t v xs g) (o : Obj) : Ro (w.alloc o) t v xs g := h.turn ((Turn.refl (fun _ => False) w).alloc o) (fun h => h)
theorem Ro.drew {w : World} {t g : Nat} {v : Value} {xs : List Value} (h : Ro w t v xs g) : Ro w.drew t v xs g := h.turn ((Turn.refl (fun _ => False) w).drew) (fun h => h)
theorem Ro.empty (w : World) (t : Nat) : Ro (w.alloc (.cells #[] t)) t (.slice (some ⟨w.heap.size, 0, none⟩) 0 0) [] w.heap.size :=
  ⟨⟨rfl, .inr ⟨_, 0, #[], rfl, Nat.le_refl _, heap_alloc_new w _, Nat.le_refl _, by simp [maxLen], rfl, rfl⟩⟩, rfl, by rw [World.size_alloc]; omega⟩
theorem Ro.form {w : World} {t g : Nat} {v : Value} {xs : List Value} (h : Ro w t v xs g) : ∃ c, v = .slice (some ⟨g, 0, none⟩) xs.length c ∧ xs.length ≤ c ∧ c ≤ maxLen := by
  obtain ⟨⟨hx, ⟨e, hn⟩ | ⟨q, c, cur, e, hB, hr, hle, hcm, _⟩⟩, h2, h3⟩ := h
  · rw [e] at h2; cases h2
  · have hq : q = g := by rw [e] at h2; simpa [Value.ownBlock] using h2
    subst hq
    exact ⟨c, e, hle, hcm⟩
theorem Ro.cells {w : World} {t g : Nat} {v : Value} {xs : List Value} (h : Ro w t v xs g) (j : Nat) (u : Value) (hj : xs[j]? = some u) : w.cell? ⟨g, 0 + j, none⟩ = some u := by
  have h5 := h.1.cells (g := g) h.2.1 j u hj
  rw [Addr.add_mid] at h5
  exact h5
theorem Ro.sr {w : World} {g : Nat} {v : Value} {L : List ByteArray} (h : Ro w 9 v (L.map Value.string) g) : Sr w (some ⟨g, 0, none⟩) L := fun hp =>
  ⟨g, 0, rfl, h.lt, fun X hX j s hj => (h.turn hX (fun h => h)).cells j (.string s) (by rw [List.getElem?_map, hj]; rfl)⟩
theorem Ro.nr {w : World} {g : Nat} {v : Value} {L : List Int} (h : Ro w 3 v (L.map (Value.int .i64)) g) : Nr w (some ⟨g, 0, none⟩) L := fun hp =>
  ⟨g, 0, rfl, h.lt, fun X hX j s hj => (h.turn hX (fun h => h)).cells j (.int .i64 s) (by rw [List.getElem?_map, hj]; rfl)⟩
theorem grown_turn8 {w w' : World} {v : Value} {g : Nat} (h : w.grownBy w' v.ownBlock) (hg : v.ownBlock = some g) : Turn (fun k => k = g) w w' :=
  ⟨h.os, h.tape, h.output, h.size, fun i hi hk => h.block i hi (by rw [hg]; intro e; injection e with e; exact hk e)⟩
theorem Ro.al {w X : World} {t g : Nat} {v : Value} {xs : List Value} {o : Obj} (h : Ro w t v xs g) (e : X = w.alloc o) : Ro X t v xs g := e ▸ h.alloc o
theorem Blk.al {w X : World} {t g : Nat} {xs : List Value} {o : Obj} (h : Blk w g t xs) (e : X = w.alloc o) : Blk X g t xs := e ▸ h.alloc o
theorem Turn.al {S : Nat → Prop} {w w' X : World} {o : Obj} (h : Turn S w w') (e : X = w'.alloc o) : Turn S w X := e ▸ h.alloc o
theorem size_al {w X : World} {o : Obj} (e : X = w.alloc o) : w.heap.size < X.heap.size := by rw [e, World.size_alloc]; omega
theorem Ro.emp {w X : World} {t : Nat} (e : X = w.alloc (.cells #[] t)) : Ro X t (.slice (some ⟨w.heap.size, 0, none⟩) 0 0) [] w.heap.size := e ▸ Ro.empty w t
theorem Ro.empS {w X : World} {t : Nat} (e : X = w.alloc (.cells #[] t)) : Ro X t (.slice (some ⟨w.heap.size, 0, none⟩) 0 0) (([] : List ByteArray).map Value.string) w.heap.size := e ▸ Ro.empty w t
theorem Ro.empI {w X : World} {t : Nat} (e : X = w.alloc (.cells #[] t)) : Ro X t (.slice (some ⟨w.heap.size, 0, none⟩) 0 0) (([] : List Int).map (Value.int .i64)) w.heap.size := e ▸ Ro.empty w t
theorem Blk.nw {w X : World} {t : Nat} {cs : List Value} (e : X = w.alloc (.cells cs.toArray t)) : Blk X w.heap.size t cs := e ▸ Blk.new w t cs
theorem run_app_strsR (w : World) (ty : TypeId) (v : Value) (l m : List ByteArray) (g : Nat) (hown : Ro w 9 v (l.map Value.string) g) (A : Option Addr) (c : Nat) (hx : Sr w A m) (hcp : Cp A m.length c) (hb : l.length + m.length ≤ 100000) :
    ∃ g' c' w', (Builtin.append_ #[23, 23] ty #[v, .slice A m.length c]).run Try.prog w = .ok (.slice (some ⟨g', 0, none⟩) (l ++ m).length c') w' ∧ (g' = g ∨ g' = w.heap.size) ∧ Ro w' 9 (.slice (some ⟨g', 0, none⟩) (l ++ m).length c') ((l ++ m).map Value.string) g' ∧ Cp (some ⟨g', 0, none⟩) (l ++ m).length c' ∧ Turn (fun k => k = g) w w' := by
  have fin : ∀ v' (w' : World), w'.ownsRow g 9 1 v' (l ++ m).length ((l ++ m).map Value.string) → w.grownBy w' v.ownBlock → (v'.ownBlock = v.ownBlock ∨ v'.ownBlock = some w.heap.size) → (Builtin.append_ #[23, 23] ty #[v, .slice A m.length c]).run Try.prog w = .ok v' w' →
      ∃ g' c' w', (Builtin.append_ #[23, 23] ty #[v, .slice A m.length c]).run Try.prog w = .ok (.slice (some ⟨g', 0, none⟩) (l ++ m).length c') w' ∧ (g' = g ∨ g' = w.heap.size) ∧ Ro w' 9 (.slice (some ⟨g', 0, none⟩) (l ++ m).length c') ((l ++ m).map Value.string) g' ∧ Cp (some ⟨g', 0, none⟩) (l ++ m).length c' ∧ Turn (fun k => k = g) w w' := fun v' w' ho hg hv hr => by
    have hT := grown_turn8 hg hown.2.1
    obtain ⟨hx, ⟨e, hn⟩ | ⟨q, c', cur, e, hB, hq, hle, hcm, hh⟩⟩ := ho
    · rw [e, hown.2.1] at hv
      rcases hv with hv | hv <;> cases hv
    · subst e
      have hq2 : q = g ∨ q = w.heap.size := by rw [hown.2.1] at hv; simpa [Value.ownBlock] using hv
      have hlt : q < w'.heap.size := by
        rcases Nat.lt_or_ge q w'.heap.size with h1 | h1
        · exact h1
        · rw [Array.getElem?_eq_none h1] at hq; cases hq
      refine ⟨q, c', w', hr, hq2, ⟨⟨by simp, .inr ⟨q, c', cur, by simp, Nat.le_refl _, hq, by simpa using hle, hcm, by simpa using hh⟩⟩, rfl, hlt⟩, ⟨hle, hcm, fun h => by cases h⟩, hT⟩
  have hown1 : w.ownsRow g 9 1 v l.length (l.map Value.string) := by have := hown.1; simpa using this
  obtain ⟨i, hi, hz, hs, hby⟩ := info_parts Try.info9
  cases A with
  | none =>
    have hc0 := hcp.nil rfl
    have hm0 : m.length = 0 := by have := hcp.le; omega
    have hm : m = [] := List.eq_nil_of_length_eq_zero hm0
    subst hm hc0
    have hrun := run_append_owned_none (P := Try.prog) (w := w) g 23 ty 9 i 1 Try.underlying23 hi v l.length (l.map Value.string) hown1
    exact fin v w (by simpa using hown1) ⟨rfl, rfl, rfl, Nat.le_refl _, fun _ _ _ => rfl⟩ (.inl rfl) hrun
  | some ad =>
    have hc : ∀ j u, (m.map Value.string)[j]? = some u → w.cell? (ad.add j) = some u := fun j u hu => by
      rw [List.getElem?_map] at hu
      cases hj : m[j]? with
      | none => rw [hj] at hu; cases hu
      | some s =>
        rw [hj] at hu; cases hu
        have hp : 0 < m.length := by
          rcases Nat.eq_zero_or_pos m.length with h0 | h0
          · rw [List.eq_nil_of_length_eq_zero h0] at hj; cases hj
          · exact h0
        obtain ⟨b, o, e, hb, hcc⟩ := hx hp
        injection e with e
        subst e
        rw [Addr.add_mid]
        exact hcc w (Turn.refl _ w) j s hj
    obtain ⟨v', w', hrun, h2, h3, _, h5⟩ := run_append_own_at (P := Try.prog) w g 23 ty 9 i (.string ByteArray.empty) 1 16 Try.underlying23 hi hz hs hby rfl (by decide) v l.length (l.map Value.string) hown1 ad m.length c (m.map Value.string) (by simp) hc (one_sv m) (by unfold maxLen; omega) (by omega) (Nat.le_of_lt hown.lt)
    exact fin v' w' (by rw [List.length_append, List.map_append]; exact h2) h3 h5 hrun
theorem step_app_strsR {w : World} {ops : Array Oper} {o : Oper} {a : Act} {K : Act → World → Prop} {Q : Exit → Act → World → Prop} {E : Prop} (hw : Region.wanted o (yielded ops a.tmps) = true) (s y : Operand)
    (ho : o.op = .call { callee := .builtin .append, args := #[s, y], argTypes := #[23, 23] })
    (v : Value) (l m : List ByteArray) (g : Nat) (A : Option Addr) (n c N : Nat) (hn : m.length = n) (hN : (l ++ m).length = N) (hs : a.eval s = v) (hy : a.eval y = .slice A n c) (hown : Ro w 9 v (l.map Value.string) g) (hx : Sr w A m) (hcp : Cp A n c) (hb : l.length + m.length ≤ 100000)
    (h : ∀ g' c' w', (g' = g ∨ g' = w.heap.size) → Ro w' 9 (.slice (some ⟨g', 0, none⟩) N c') ((l ++ m).map Value.string) g' → Cp (some ⟨g', 0, none⟩) N c' → Turn (fun k => k = g) w w' → K (a.put o.dst (.slice (some ⟨g', 0, none⟩) N c')) w') : if Region.wanted o (yielded ops a.tmps) = true then Oper.wp Try.prog o a w K Q else E := by
  rw [if_pos hw]
  subst hn hN
  obtain ⟨g', c', w', hr, h2, h3, h4, h5⟩ := run_app_strsR w o.type v l m g hown A c hx hcp hb
  unfold Oper.wp execOp
  simp only [ho, resolve, invoke, builtin, Sem.run_bind, Sem.run_pure, Result.andThen_ok, List.map_toArray, List.map_cons, List.map_nil, hs, hy, hr]
  exact h g' c' w' h2 h3 h4 h5
theorem run_app_intsR (w : World) (ty : TypeId) (v : Value) (l m : List Int) (g : Nat) (hown : Ro w 3 v (l.map (Value.int .i64)) g) (A : Option Addr) (c : Nat) (hx : Nr w A m) (hcp : Cp A m.length c) (hb : l.length + m.length ≤ 100000) :
    ∃ g' c' w', (Builtin.append_ #[24, 24] ty #[v, .slice A m.length c]).run Try.prog w = .ok (.slice (some ⟨g', 0, none⟩) (l ++ m).length c') w' ∧ (g' = g ∨ g' = w.heap.size) ∧ Ro w' 3 (.slice (some ⟨g', 0, none⟩) (l ++ m).length c') ((l ++ m).map (Value.int .i64)) g' ∧ Cp (some ⟨g', 0, none⟩) (l ++ m).length c' ∧ Turn (fun k => k = g) w w' := by
  have fin : ∀ v' (w' : World), w'.ownsRow g 3 1 v' (l ++ m).length ((l ++ m).map (Value.int .i64)) → w.grownBy w' v.ownBlock → (v'.ownBlock = v.ownBlock ∨ v'.ownBlock = some w.heap.size) → (Builtin.append_ #[24, 24] ty #[v, .slice A m.length c]).run Try.prog w = .ok v' w' →
      ∃ g' c' w', (Builtin.append_ #[24, 24] ty #[v, .slice A m.length c]).run Try.prog w = .ok (.slice (some ⟨g', 0, none⟩) (l ++ m).length c') w' ∧ (g' = g ∨ g' = w.heap.size) ∧ Ro w' 3 (.slice (some ⟨g', 0, none⟩) (l ++ m).length c') ((l ++ m).map (Value.int .i64)) g' ∧ Cp (some ⟨g', 0, none⟩) (l ++ m).length c' ∧ Turn (fun k => k = g) w w' := fun v' w' ho hg hv hr => by
    have hT := grown_turn8 hg hown.2.1
    obtain ⟨hx, ⟨e, hn⟩ | ⟨q, c', cur, e, hB, hq, hle, hcm, hh⟩⟩ := ho
    · rw [e, hown.2.1] at hv
      rcases hv with hv | hv <;> cases hv
    · subst e
      have hq2 : q = g ∨ q = w.heap.size := by rw [hown.2.1] at hv; simpa [Value.ownBlock] using hv
      have hlt : q < w'.heap.size := by
        rcases Nat.lt_or_ge q w'.heap.size with h1 | h1
        · exact h1
        · rw [Array.getElem?_eq_none h1] at hq; cases hq
      refine ⟨q, c', w', hr, hq2, ⟨⟨by simp, .inr ⟨q, c', cur, by simp, Nat.le_refl _, hq, by simpa using hle, hcm, by simpa using hh⟩⟩, rfl, hlt⟩, ⟨hle, hcm, fun h => by cases h⟩, hT⟩
  have hown1 : w.ownsRow g 3 1 v l.length (l.map (Value.int .i64)) := by have := hown.1; simpa using this
  obtain ⟨i, hi, hz, hs, hby⟩ := info_parts Try.info3i
  cases A with
  | none =>
    have hc0 := hcp.nil rfl
    have hm0 : m.length = 0 := by have := hcp.le; omega
    have hm : m = [] := List.eq_nil_of_length_eq_zero hm0
    subst hm hc0
    have hrun := run_append_owned_none (P := Try.prog) (w := w) g 24 ty 3 i 1 Try.underlying24 hi v l.length (l.map (Value.int .i64)) hown1
    exact fin v w (by simpa using hown1) ⟨rfl, rfl, rfl, Nat.le_refl _, fun _ _ _ => rfl⟩ (.inl rfl) hrun
  | some ad =>
    have hc : ∀ j u, (m.map (Value.int .i64))[j]? = some u → w.cell? (ad.add j) = some u := fun j u hu => by
      rw [List.getElem?_map] at hu
      cases hj : m[j]? with
      | none => rw [hj] at hu; cases hu
      | some s =>
        rw [hj] at hu; cases hu
        have hp : 0 < m.length := by
          rcases Nat.eq_zero_or_pos m.length with h0 | h0
          · rw [List.eq_nil_of_length_eq_zero h0] at hj; cases hj
          · exact h0
        obtain ⟨b, o, e, hb, hcc⟩ := hx hp
        injection e with e
        subst e
        rw [Addr.add_mid]
        exact hcc w (Turn.refl _ w) j s hj
    obtain ⟨v', w', hrun, h2, h3, _, h5⟩ := run_append_own_at (P := Try.prog) w g 24 ty 3 i (.int .i64 0) 1 8 Try.underlying24 hi hz hs hby rfl (by decide) v l.length (l.map (Value.int .i64)) hown1 ad m.length c (m.map (Value.int .i64)) (by simp) hc (one_iv m) (by unfold maxLen; omega) (by omega) (Nat.le_of_lt hown.lt)
    exact fin v' w' (by rw [List.length_append, List.map_append]; exact h2) h3 h5 hrun
theorem step_app_intsR {w : World} {ops : Array Oper} {o : Oper} {a : Act} {K : Act → World → Prop} {Q : Exit → Act → World → Prop} {E : Prop} (hw : Region.wanted o (yielded ops a.tmps) = true) (s y : Operand)
    (ho : o.op = .call { callee := .builtin .append, args := #[s, y], argTypes := #[24, 24] })
    (v : Value) (l m : List Int) (g : Nat) (A : Option Addr) (n c N : Nat) (hn : m.length = n) (hN : (l ++ m).length = N) (hs : a.eval s = v) (hy : a.eval y = .slice A n c) (hown : Ro w 3 v (l.map (Value.int .i64)) g) (hx : Nr w A m) (hcp : Cp A n c) (hb : l.length + m.length ≤ 100000)
    (h : ∀ g' c' w', (g' = g ∨ g' = w.heap.size) → Ro w' 3 (.slice (some ⟨g', 0, none⟩) N c') ((l ++ m).map (Value.int .i64)) g' → Cp (some ⟨g', 0, none⟩) N c' → Turn (fun k => k = g) w w' → K (a.put o.dst (.slice (some ⟨g', 0, none⟩) N c')) w') : if Region.wanted o (yielded ops a.tmps) = true then Oper.wp Try.prog o a w K Q else E := by
  rw [if_pos hw]
  subst hn hN
  obtain ⟨g', c', w', hr, h2, h3, h4, h5⟩ := run_app_intsR w o.type v l m g hown A c hx hcp hb
  unfold Oper.wp execOp
  simp only [ho, resolve, invoke, builtin, Sem.run_bind, Sem.run_pure, Result.andThen_ok, List.map_toArray, List.map_cons, List.map_nil, hs, hy, hr]
  exact h g' c' w' h2 h3 h4 h5
theorem wpAnyH_named {P : Program} {md : Region.Mode} {ops : Array Oper} {Q : Exit → Act → World → Prop} {S : World → Prop} {fuel : Nat} {listed : Array Bool} {a : Act} {w : World} (h : ∀ X, X = w → wpAnyH P md ops Q S fuel listed a X) : wpAnyH P md ops Q S fuel listed a w := h w rfl
end Go.Proofs.Ytpnnbfojdccfhaa
