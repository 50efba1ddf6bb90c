/- Layer 9: rows of numbers and of texts grow; Flush; Read of a page that stays. -/
import Derived.Test.YtigkhpencobalaaDoorPrS
namespace Go.Proofs.YtigkhpencobalaaDoor
open Go.RowKit
set_option linter.unusedVariables false
set_option linter.unusedSimpArgs false
set_option maxRecDepth 100000

theorem one_iq9 (L : List Int) : ∀ u ∈ L.map (Value.int .i64), u.oneCell' = true := fun u hu => by
  obtain ⟨z, _, rfl⟩ := List.mem_map.1 hu; rfl
theorem turn_grown9 {w w' : World} {v : Value} (h3 : w.grownBy w' v.ownBlock) : Turn (fun k => v.ownBlock = some k) w w' := ⟨h3.os, h3.tape, h3.output, h3.size, fun k hk hn => h3.block k hk (fun e => hn e.symm)⟩
theorem appI9 (w : World) (B : Nat) (ty : TypeId) (v : Value) (L m : List Int) (A : Option Addr) (n c : Nat) (hown : w.ownsRow B 3 1 v L.length (L.map (Value.int .i64))) (hm : Ir w A m) (hn : m.length = n) (hnil : A = none → n = 0 ∧ c = 0) (hb : L.length + n ≤ 90000) (hB : B ≤ w.heap.size) :
    ∃ v' w', (Builtin.append_ #[38, 38] ty #[v, .slice A n c]).run Tryd.prog w = .ok v' w' ∧ w'.ownsRow B 3 1 v' (L ++ m).length ((L ++ m).map (Value.int .i64)) ∧ Turn (fun k => v.ownBlock = some k) w w' := by
  obtain ⟨i, hi, hz, hs, hby⟩ := info_parts Tryd.info3q
  cases A with
  | none =>
    obtain ⟨h0, h1⟩ := hnil rfl
    subst h0 h1
    have hm0 : m = [] := List.eq_nil_of_length_eq_zero hn
    subst hm0
    have hrun := run_append_owned_none (P := Tryd.prog) (w := w) B 38 ty 3 i 1 Tryd.underlying38 hi v L.length (L.map (Value.int .i64)) hown
    exact ⟨v, w, hrun, by simpa using hown, Turn.refl _ _⟩
  | some ad =>
    have hc : ∀ j u, (m.map (Value.int .i64))[j]? = some u → w.cell? (ad.add j) = some u := fun j u hu => by
      rw [List.getElem?_map] at hu
      cases hj : m[j]? with
      | none => rw [hj] at hu; cases hu
      | some z =>
        rw [hj] at hu; cases hu
        obtain ⟨b, e, _, h4⟩ := hm j z hj
        injection e with e
        subst e
        rw [Addr.add_mid, Nat.zero_add]; exact h4
    obtain ⟨v', w', hrun, h2, h3, _, h5⟩ := run_append_own_at (P := Tryd.prog) w B 38 ty 3 i (.int .i64 0) 1 8 Tryd.underlying38 hi hz hs hby rfl (by decide) v L.length (L.map (Value.int .i64)) hown ad n c (m.map (Value.int .i64)) (by simp [hn]) hc (one_iq9 m) (by unfold maxLen; omega) (by omega) hB
    exact ⟨v', w', hrun, by rw [List.length_append, List.map_append, hn]; exact h2, turn_grown9 h3⟩
theorem wpList_appI9 {w : World} {ops : Array Oper} {rest : List Oper} {o : Oper} {a : Act} {Q : Exit → Act → World → Prop} (hgd : o.guard = none) (x y : Operand)
    (ho : o.op = .call { callee := .builtin .append, args := #[x, y], argTypes := #[38, 38] })
    (B : Nat) (v : Value) (L m : List Int) (A : Option Addr) (n c : Nat) (hx : a.eval x = v) (hy : a.eval y = .slice A n c) (hown : w.ownsRow B 3 1 v L.length (L.map (Value.int .i64))) (hm : Ir w A m) (hn : m.length = n) (hnil : A = none → n = 0 ∧ c = 0) (hb : L.length + n ≤ 90000) (hB : B ≤ w.heap.size)
    (h : ∀ v' w', w'.ownsRow B 3 1 v' (L ++ m).length ((L ++ m).map (Value.int .i64)) → Turn (fun k => v.ownBlock = some k) w w' → wpList Tryd.prog ops Q rest (a.put o.dst v') w') : wpList Tryd.prog ops Q (o :: rest) a w :=
  wpList_plain hgd fun K hK => by
    obtain ⟨v', w', hr, h2, h3⟩ := appI9 w B o.type v L m A n c hown hm hn hnil hb hB
    unfold Oper.wp execOp
    simp only [ho, resolve, invoke, builtin, Sem.run_bind, Sem.run_pure, Result.andThen_ok, List.map_toArray, List.map_cons, List.map_nil, hx, hy, hr]
    exact hK _ _ (h v' w' h2 h3)
theorem info_str9 : (Tryd.prog.info? 9).map (fun i => (i.zero, i.size, i.bytes)) = some (some (.string ByteArray.empty), 1, 16) := by kernel_rfl
theorem one_sq9 (L : List ByteArray) : ∀ u ∈ L.map Value.string, u.oneCell' = true := fun u hu => by
  obtain ⟨z, _, rfl⟩ := List.mem_map.1 hu; rfl
theorem wpList_app1S9 {w : World} {ops : Array Oper} {rest : List Oper} {o : Oper} {a : Act} {Q : Exit → Act → World → Prop} (hgd : o.guard = none) (x y : Operand)
    (ho : o.op = .call { callee := .builtin .append, args := #[x, y], argTypes := #[29, 29] })
    (B : Nat) (v : Value) (L : List ByteArray) (s : ByteArray) (q : Nat) (hx : a.eval x = v) (hy : a.eval y = .slice (some ⟨q, 0, none⟩) 1 1) (hown : w.ownsRow B 9 1 v L.length (L.map Value.string)) (hq : Blk w q 9 [.string s]) (hb : L.length ≤ 90000) (hB : B ≤ w.heap.size)
    (h : ∀ v' w', w'.ownsRow B 9 1 v' (L.length + 1) ((L ++ [s]).map Value.string) → Turn (fun k => v.ownBlock = some k) w w' → wpList Tryd.prog ops Q rest (a.put o.dst v') w') : wpList Tryd.prog ops Q (o :: rest) a w :=
  wpList_plain hgd fun K hK => by
    obtain ⟨i, hi, hz, hs, hby⟩ := info_parts info_str9
    have hc : ∀ j u, ([s].map Value.string)[j]? = some u → w.cell? ((⟨q, 0, none⟩ : Addr).add j) = some u := fun j u hu => by
      rw [Addr.add_mid, Nat.zero_add, hq.cell j]; exact hu
    obtain ⟨v', w', hr, h2, h3, _, h5⟩ := run_append_own_at (P := Tryd.prog) w B 29 o.type 9 i (.string ByteArray.empty) 1 16 Tryd.underlying29 hi hz hs hby rfl (by decide) v L.length (L.map Value.string) hown ⟨q, 0, none⟩ 1 1 ([s].map Value.string) (by simp) hc (one_sq9 [s]) (by unfold maxLen; omega) (by omega) hB
    unfold Oper.wp execOp
    simp only [ho, resolve, invoke, builtin, Sem.run_bind, Sem.run_pure, Result.andThen_ok, List.map_toArray, List.map_cons, List.map_nil, hx, hy, hr]
    exact hK _ _ (h v' w' (by rw [List.map_append]; exact h2) (turn_grown9 h3))
theorem flush9_q {S : Nat → Prop} {w : World} {p pd fr : Nat} {st : List Nat} {D : Dsk} (h : Pq S w p pd fr st D) (hpn : D.pend.length < 1000000000) :
    Calls Tryd.prog 35 #[.pointer (some ⟨pd, 0, none⟩)] w fun r w' => r = .returned (.int .i64 D.flush.2) ∧ ∃ S', Pq S' w' p pd fr st D.flush.1 ∧ Stp S w S' w' := by
  obtain ⟨pa, ga, gr, SD, hP, hD, hap, rfl, hroom⟩ := h
  refine (flush_dq hD hpn).mono fun e w' ⟨h1, S', h2, h3⟩ => ⟨h1, ?_⟩
  exact Pq.mk (SD := SD) (hP.turn h3.1 (fun h => (hap _ h).1 rfl) (fun h => (hap _ h).2.1 rfl) (fun h => (hap _ h).2.2.1 rfl) (fun h => (hap _ h).2.2.2.1 rfl) (fun h => (hap _ h).2.2.2.2 rfl)) h2 hap ⟨hP.bx.lt, hP.al.ltp, hP.al.ltg, hP.row.lt⟩ h3.2 (h3.1.mono (fun k _ hk => .inr (.inr (.inr (.inr hk))))) (by rw [(flush_len D).1]; exact hroom)
theorem flush_good {D : Dsk} (h : Good D) : D.flush.2 = 0 ∧ Good D.flush.1 ∧ D.flush.1.pend = [] := by
  have hb := burnt_good h
  obtain ⟨h1, h2⟩ := h
  unfold Dsk.flush
  rw [h1, h2, if_neg (by decide), if_neg (by decide)]
  obtain ⟨k1, k2, k3, k4⟩ := keepAll_same D.pend D
  refine ⟨rfl, ⟨?_, ?_⟩, rfl⟩
  · show ((D.burnt.keepAll D.pend).lost).dead = false
    rw [hb]; exact k3.trans h1
  · show ((D.burnt.keepAll D.pend).lost).fuse = -1
    rw [hb]; exact k2.trans h2
theorem Ks.start {fr : Nat} {D : Dsk} {st : List Nat} (h : Gd fr st D) (hp : D.pend = []) : Ks fr (pk9 1 st ++ pk9 3 st) D st D := ⟨h, fun k hk => by
  have hq : ∀ i, Qt D i := fun i x hx => by rw [hp] at hx; cases hx
  rcases List.mem_append.1 hk with h1 | h1
  · obtain ⟨i, e, h2, h3⟩ := (pkTo_mem 1 st st.length _).1 h1
    have : k = i := by omega
    subst this
    exact ⟨h2, .inl h3, fun q _ => ⟨hq _, rfl⟩⟩
  · obtain ⟨i, e, h2, h3⟩ := (pkTo_mem 3 st st.length _).1 h1
    have : k = i := by omega
    subst this
    exact ⟨h2, .inr h3, fun q _ => ⟨hq _, rfl⟩⟩⟩
/-- A page that stays reads as it did. -/
theorem read9_k {S : Nat → Prop} {w : World} {p pd fr : Nat} {st : List Nat} {D D1 : Dsk} {L : List Int} (h : Pq S w p pd fr st D) (hk : Ks fr L D1 st D) (k : Nat) (hkL : (k : Int) ∈ L) :
    Calls Tryd.prog 25 #[.pointer (some ⟨p, 0, none⟩), .int .i64 k] w fun r w' => ∃ A c, r = .returned (.tuple #[.slice A 1024 c, .int .i64 0]) ∧ Sl w' w'.heap.size (.slice A 1024 c) (pgs9 D1 (fr + 8 * k) 8) ∧ Turn (fun _ => False) w w' := by
  obtain ⟨h1, h2, h3⟩ := hk.pg k hkL
  have hn : is9 st (k : Int) 0 = false := by
    unfold is9
    rw [Int.toNat_natCast]
    rcases h2 with h2 | h2 <;> (rw [h2]; simp)
  have hs := pgs9_same (D := D) (D1 := D1) (fr + 8 * k) 8 (fun q hq => (h3 q hq).2)
  have hl : (pgs9 D1 (fr + 8 * k) 8).length = 1024 := by
    rw [← hs]
    obtain ⟨_, _, _, _, _, hD, _, _, hroom⟩ := h
    exact len_pgs9 hD.1 (fr + 8 * k) 8 (by omega)
  refine (read9_ok h k h1 hn hk.gd.1.1).mono fun e w' ⟨v, h4, h5, h6⟩ => ?_
  rw [hs] at h5
  have h7 := Sl.of_own h5
  rw [hl] at h5
  obtain ⟨A, c, rfl⟩ := own_slice9 h5
  exact ⟨A, c, h4, h7, h6⟩
/-- Texts that a slice holds, apart from a set of blocks. -/
def Rks (S : Nat → Prop) (w : World) (A : Option Addr) (L : List ByteArray) : Prop := ∀ j s, L[j]? = some s → ∃ b, A = some ⟨b, 0, none⟩ ∧ b < w.heap.size ∧ ¬ S b ∧ w.cell? ⟨b, j, none⟩ = some (.string s)
theorem Rks.step {S S' : Nat → Prop} {w w' : World} {A : Option Addr} {L : List ByteArray} (h : Rks S w A L) (hs : Stp S w S' w') : Rks S' w' A L := fun j s hj => by
  obtain ⟨b, h1, h2, h3, h4⟩ := h j s hj
  exact ⟨b, h1, Nat.lt_of_lt_of_le h2 hs.1.size, fun h => by rcases hs.2 b h with h | h; exact h3 h; omega, (World.cell?_of_block (w := w) (a := ⟨b, j, none⟩) (hs.1.block b h2 h3)).trans h4⟩
theorem rks_of {S : Nat → Prop} {B : Nat} {w : World} {A : Option Addr} {n c : Nat} {L : List ByteArray} (h : w.ownsRow B 9 1 (.slice A n c) n (L.map Value.string)) (hS : ∀ k, S k → k < B) : Rks S w A L := fun j s hj => by
  obtain ⟨g, h1, h2, h3, h4⟩ := own_at9 h j (.string s) (by rw [List.getElem?_map, hj]; rfl)
  exact ⟨g, h1, h3, fun h => by have := hS g h; omega, h4⟩
end Go.Proofs.YtigkhpencobalaaDoor
