/- Append to a slice without elements and room (s[i:i:i]). -/
import Derived.Test.YtjkfgbmlhglnfaaAppG
namespace Go.Proofs.Ytjkfgbmlhglnfaa
open Go.RowKit
set_option linter.unusedVariables false
set_option linter.unusedSimpArgs false

/-- Append of whatever reads so to a slice without elements and room. -/
theorem own_ge14 {w : World} {base t s n : Nat} {v : Value} {xs : List Value} (h : w.ownsRow base t s v n xs) : ∀ k, v.ownBlock = some k → base ≤ k := fun k hk => by
  rcases h.2 with ⟨rfl, _⟩ | ⟨g, cap, cur, rfl, hB, hh, _⟩
  · simp [Value.ownBlock] at hk
  · simp [Value.ownBlock] at hk; omega
theorem run_app_bare {P : Program} (w : World) (t ty e : TypeId) (i : TypeInfo) (z : Value) (size bytes : Nat) (ht : P.underlying t = some (.slice e)) (hi : P.info? e = some i) (hz : i.zero = some z)
    (hsize : i.size = size) (hby : i.bytes = bytes) (hzs : z.cells.size = size) (hsz : 0 < size) (AO : Option Addr)
    (A : Option Addr) (m c : Nat) (news : List Value) (hl : news.length = m * size) (hx : Rc w A news) (h1 : ∀ u ∈ news, u.oneCell' = true)
    (h63 : m ≤ maxLen) (hbytes : m * bytes ≤ 140737488355328) :
    ∃ A' c' w', (Builtin.append_ #[t, t] ty #[.slice AO 0 0, .slice A m c]).run P w = .ok (.slice A' m c') w' ∧ Rc w' A' news ∧ (m ≤ c' ∧ (0 < m → ∀ a, A' = some a → w.heap.size ≤ a.block)) ∧ Turn (fun _ => False) w w' := by
  by_cases h0 : m = 0
  · subst h0
    obtain rfl : news = [] := List.eq_nil_of_length_eq_zero (by rw [hl, Nat.zero_mul])
    refine ⟨AO, 0, w, ?_, rc_nil _ _, ⟨Nat.le_refl _, fun h => absurd h (Nat.lt_irrefl 0)⟩, Turn.refl _ _⟩
    cases A with
    | none => cases AO <;> simp [Builtin.append_, run_underlying ht, sizeOf, typeInfo, hi, Builtin.lenOf, Builtin.firstCells, storeCells]
    | some ad =>
      have hfc := run_firstCells_some (P := P) w i.size 0 ad 0 c [] (by simp) (fun j u hu => by simp at hu)
      cases AO <;> simp [Builtin.append_, run_underlying ht, sizeOf, typeInfo, hi, Builtin.lenOf, storeCells, hfc]
  · obtain ⟨b, o, rfl, hb, hc⟩ := hx (by rw [hl]; exact Nat.mul_pos (by omega) hsz)
    have key : ∃ v' w', (Builtin.append_ #[t, t] ty #[.slice AO 0 0, .slice (some ⟨b, o, none⟩) m c]).run P w = .ok v' w' ∧ w'.ownsRow w.heap.size e size v' (0 + m) ([] ++ news) ∧ Turn (fun _ => False) w w' := by
      cases AO with
      | none =>
        obtain ⟨v', w', hrun, h2, h3, h5⟩ := run_app_rc (P := P) (w := w) w.heap.size t ty e i z size bytes ht hi hz hsize hby hzs hsz (.slice none 0 0) 0 [] (World.ownsRow_nil w _ e size) (some ⟨b, o, none⟩) m c news hl (fun _ => ⟨b, o, rfl, hb, hc⟩) h1 (by omega) (by simpa using hbytes) (Nat.le_refl _)
        exact ⟨v', w', hrun, h2, h3.mono (fun k _ h => by simp [Value.ownBlock] at h)⟩
      | some ad =>
        obtain ⟨v', w', hrun, h2, h3⟩ := run_append_arg_grows (P := P) w t ty e i z size bytes ht hi hz hsize hby hzs hsz ad 0 0 [] (by simp) (fun j u hu => by simp at hu) ⟨b, o, none⟩ m c news hl (fun j u hj => by rw [Addr.add_lit]; exact hc j u hj) (by omega) (by omega) (by simpa using hbytes)
        exact ⟨v', w', hrun, h2, (turn_grownG (v := .slice none 0 0) h3).mono (fun k _ h => by simp [Value.ownBlock] at h)⟩
    obtain ⟨v', w', hrun, h2, h3⟩ := key
    rw [Nat.zero_add, List.nil_append] at h2
    obtain ⟨A', c', rfl⟩ := own_slice_ h2
    have hmc : m ≤ c' := by
      rcases h2.2 with ⟨e, h0⟩ | ⟨g, cap, cur, e, _, _, hn8, _⟩
      · injection e with _ e2 e3; omega
      · injection e with _ e2 e3; subst e3; have h4 := hn8; omega
    exact ⟨A', c', w', hrun, rc_own h2, ⟨hmc, fun _ a e => (own_ge14 h2 a.block (by rw [e]; rfl))⟩, h3⟩
theorem step_app_bare {P : Program} {w : World} {ops : Array Oper} {o : Oper} {a : Act} {K : Act → World → Prop} {Q : Exit → Act → World → Prop} {E : Prop} (hgd : o.guard = none) (x y : Operand) (t : TypeId)
    (ho : o.op = .call { callee := .builtin .append, args := #[x, y], argTypes := #[t, t] })
    (e : TypeId) (z : Value) (size bytes : Nat) (ht : P.underlying t = some (.slice e)) (hi : (P.info? e).map (fun i => (i.zero, i.size, i.bytes)) = some (some z, size, bytes)) (hzs : z.cells.size = size) (hsz : 0 < size)
    (AO : Option Addr) (hx : a.eval x = .slice AO 0 0)
    (A : Option Addr) (m c : Nat) (news : List Value) (hy : a.eval y = .slice A m c) (hl : news.length = m * size) (hr : Rc w A news) (h1 : ∀ u ∈ news, u.oneCell' = true)
    (h63 : m ≤ maxLen) (hbytes : m * bytes ≤ 140737488355328)
    (h : ∀ A' c' w', Rc w' A' news → (m ≤ c' ∧ (0 < m → ∀ a, A' = some a → w.heap.size ≤ a.block)) → Turn (fun _ => False) w w' → K (a.put o.dst (.slice A' m c')) w') :
    if Region.wanted o (yielded ops a.tmps) = true then Oper.wp P o a w K Q else E := by
  have hw : Region.wanted o (yielded ops a.tmps) = true := by simp [Region.wanted, hgd]
  rw [if_pos hw]
  cases hi' : P.info? e with
  | none => rw [hi'] at hi; cases hi
  | some i =>
    rw [hi'] at hi
    simp at hi
    obtain ⟨hz, hs, hb⟩ := hi
    obtain ⟨A', c', w', hrun, h2, hmc, h3⟩ := run_app_bare (P := P) w t o.type e i z size bytes ht hi' hz hs hb hzs hsz AO A m c news hl hr h1 h63 hbytes
    unfold Oper.wp execOp
    simp only [ho, resolve, invoke, builtin, Sem.run_bind, Sem.run_pure, Result.andThen_ok, List.map_toArray, List.map_cons, List.map_nil, hx, hy, hrun]
    exact h A' c' w' h2 hmc h3
/-- A part of a row of structs lies in the row. -/
theorem flat_part {α : Type} {f : α → List Value} {k : Nat} (hf : ∀ x, (f x).length = k) (L : List α) (i m j : Nat) (u : Value) (h : (((L.drop i).take m).flatMap f)[j]? = some u) : (L.flatMap f)[i * k + j]? = some u := by
  by_cases hi : i ≤ L.length
  · have e : L.flatMap f = (L.take i).flatMap f ++ (((L.drop i).take m).flatMap f ++ ((L.drop i).drop m).flatMap f) := by
      rw [← List.flatMap_append, List.take_append_drop, ← List.flatMap_append, List.take_append_drop]
    have hl : ((L.take i).flatMap f).length = i * k := by rw [flat_len hf, List.length_take, Nat.min_eq_left hi]
    rw [e, List.getElem?_append_right (by omega), hl, Nat.add_sub_cancel_left]
    rw [List.getElem?_append_left]
    · exact h
    · rcases Nat.lt_or_ge j (((L.drop i).take m).flatMap f).length with h1 | h1
      · exact h1
      · rw [List.getElem?_eq_none h1] at h; cases h
  · rw [List.drop_eq_nil_of_le (by omega)] at h
    simp at h
/-- What s[i:k] reads, its address as the model has it. -/
theorem rc_part {α : Type} {f : α → List Value} {q : Nat} (hf : ∀ x, (f x).length = q) (L : List α) (w : World) (A : Option Addr) (c i k : Nat) (h : Rc w A (L.flatMap f)) (hk : k ≤ c) :
    Rc w (if c = i then A else Option.map (fun x => x.add (i * q)) A) (((L.drop i).take (k - i)).flatMap f) := by
  by_cases hc : c = i
  · have : k - i = 0 := by omega
    rw [this, List.take_zero]
    exact rc_nil _ _
  · rw [if_neg hc]
    intro hp
    have hp2 : 0 < (L.flatMap f).length := by
      have := flat_part hf L i (k - i) 0 _ (List.getElem?_eq_getElem hp)
      rcases Nat.lt_or_ge (i * q + 0) (L.flatMap f).length with h1 | h1
      · omega
      · rw [List.getElem?_eq_none h1] at this; cases this
    obtain ⟨b, o, rfl, hb, hc2⟩ := h hp2
    refine ⟨b, o + i * q, by simp [Addr.add], hb, fun j u hj => ?_⟩
    rw [Nat.add_assoc]
    exact hc2 _ u (flat_part hf L i (k - i) j u hj)
end Go.Proofs.Ytjkfgbmlhglnfaa
