/- Layer 6: a ring with its disk; Append. -/
import Derived.Test.YthhmodbggngelaaRnC
import Derived.Test.YthhmodbggngelaaSltV
import Derived.ArgAppend
namespace Go.Proofs.Ythhmodbggngelaa
open Go.RowKit
set_option linter.unusedVariables false
set_option maxRecDepth 100000

/-- The row of a ring's records: a row of its own, or what is left of one behind Truncate. -/
def Rw6 (w : World) (v : Value) (L : List Rc) : Prop := w.ownsRow 0 70 3 v L.length (L.flatMap rcells) ∨ (L = [] ∧ ∃ g cur, v = .slice (some ⟨g, 0, none⟩) 0 0 ∧ w.heap[g]? = some (.cells cur 70 (0, 0)))
theorem Rw6.turn {S : Nat → Prop} {w w' : World} {v : Value} {L : List Rc} (h : Rw6 w v L) (ht : Turn S w w') (hne : ∀ k, v.ownBlock = some k → ¬ S k) : Rw6 w' v L := by
  rcases h with h | ⟨h1, g, cur, rfl, h2⟩
  · exact .inl (World.ownsRow.turn5 h ht hne)
  · exact .inr ⟨h1, g, cur, rfl, by rw [ht.block g (Array.getElem?_eq_some_iff.1 h2).1 (hne g rfl)]; exact h2⟩
theorem Rw6.lt {w : World} {v : Value} {L : List Rc} (h : Rw6 w v L) : ∀ k, v.ownBlock = some k → k < w.heap.size := by
  rcases h with h | ⟨h1, g, cur, rfl, h2⟩
  · exact own_lt5 h
  · intro k hk
    simp only [Value.ownBlock, Option.some.injEq] at hk
    subst hk
    exact (Array.getElem?_eq_some_iff.1 h2).1
theorem Rw6.blk {w : World} {v : Value} {L : List Rc} {g t : Nat} {cs : List Value} (h : Rw6 w v L) (hb : Blk w g t cs) (hne : t ≠ 70) : ¬ v.ownBlock = some g := by
  rcases h with h | ⟨h1, g1, cur, rfl, h2⟩
  · exact own_blk5 h hb hne
  · intro hk
    simp only [Value.ownBlock, Option.some.injEq] at hk
    subst hk
    unfold Blk at hb
    rw [hb] at h2
    injection h2 with h2
    injection h2 with _ h3
    exact hne h3
theorem wpList_append_rw6 (w : World) {ops : Array Oper} {rest : List Oper} {o : Oper} {a : Go.Act} {Q : Exit → Go.Act → World → Prop} (hgd : o.guard = none) (s x : Operand)
    (ho : o.op = .call { callee := .builtin .append, args := #[s, x], argTypes := #[35, 35] }) (i : TypeInfo) (z : Value) (hi : Try.prog.info? 70 = some i) (hz : i.zero = some z)
    (hsize : i.size = 3) (hby : i.bytes = 32) (hzs : z.cells.size = 3) (v : Value) (L : List Rc) (hs : a.eval s = v) (hrow : Rw6 w v L)
    (ad : Addr) (c : Nat) (news : List Value) (hx : a.eval x = .slice (some ad) 1 c) (hl : news.length = 3) (hnews : ∀ j u, news[j]? = some u → w.cell? (ad.add j) = some u) (h1 : ∀ u ∈ news, u.oneCell' = true) (hL : L.length ≤ 1000000)
    (h : ∀ v' w', w'.ownsRow 0 70 3 v' (L.length + 1) (L.flatMap rcells ++ news) → w.grownBy w' v.ownBlock → (∀ k, v'.ownBlock = some k → v.ownBlock = some k ∨ w.heap.size ≤ k) → wpList Try.prog ops Q rest (a.put o.dst v') w') :
    wpList Try.prog ops Q (o :: rest) a w := by
  rcases hrow with h0 | ⟨rfl, g, cur, rfl, h2⟩
  · refine wpList_append_own_at _ hgd s x 35 ho 0 70 i z 3 32 Try.underlying35 hi hz hsize hby hzs (by decide) v L.length _ hs h0 ad 1 c news hx (by omega) hnews h1 (by unfold maxLen; omega) (by omega) (Nat.zero_le _) ?_
    intro v' w' h3 h4 _ h5
    refine h v' w' h3 h4 (fun k hk => ?_)
    rcases h5 with h5 | h5
    · exact .inl (h5 ▸ hk)
    · rw [h5] at hk; injection hk with hk; exact .inr (by omega)
  · refine wpList_append_grows w hgd s x 35 ho 70 i z 3 32 Try.underlying35 hi hz hsize hby hzs (by decide) (some ⟨g, 0, none⟩) 0 0 [] hs (fun e => by cases e) rfl (fun b _ j u hj => by cases hj) ad 1 c news hx (by omega) hnews h1 (by decide) (by unfold maxLen; omega) (by omega) ?_
    intro v' w' h3 h4
    have h5 := World.ownsRow.base5 h3
    exact h v' w' (own_low5 h3 (Nat.zero_le _)) ⟨h4.os, h4.tape, h4.output, h4.size, fun k hk _ => h4.block k hk (by simp)⟩ (fun k hk => .inr (h5 k hk))
/-- A ring over a disk: its block, its records in a row of its own, the disk beside. -/
structure RD (S : Nat → Prop) (vR : Value) (w : World) (p d : Nat) (f c s n e : Nat) (L : List Rc) (D : Dsk) : Prop where
  disk : Dq S w d D
  blk : RgB w p d f c s n e vR
  row : Rw6 w vR L
  sp : ¬ S p
  sv : ∀ k, vR.ownBlock = some k → ¬ S k
def Rk (S : Nat → Prop) (p : Nat) (vR : Value) (k : Nat) : Prop := S k ∨ k = p ∨ vR.ownBlock = some k
theorem RD.quiet {S : Nat → Prop} {vR : Value} {w w' : World} {p d f c s n e : Nat} {L : List Rc} {D : Dsk} (h : RD S vR w p d f c s n e L D) (ht : Turn (fun _ => False) w w') : RD S vR w' p d f c s n e L D :=
  ⟨h.disk.still ht, h.blk.turn ht (fun h => h), h.row.turn ht (fun _ _ h => h), h.sp, h.sv⟩
theorem RD.step {S S3 : Nat → Prop} {vR : Value} {w w3 : World} {p d f c s n e : Nat} {L : List Rc} {D D' : Dsk} (h : RD S vR w p d f c s n e L D) (hs : Stp S w S3 w3) (hd : Dq S3 w3 d D') : RD S3 vR w3 p d f c s n e L D' :=
  ⟨hd, h.blk.turn hs.1 h.sp, h.row.turn hs.1 (fun k hk => h.sv k hk), fun hk => by
    rcases hs.2 _ hk with h1 | h1
    · exact h.sp h1
    · have := h.blk.lt; omega, fun k hk h3 => by
    rcases hs.2 _ h3 with h1 | h1
    · exact h.sv k hk h1
    · have := h.row.lt k hk; omega⟩
theorem Rk.step {S S3 : Nat → Prop} {vR : Value} {w w3 : World} {p : Nat} (hs : Stp S w S3 w3) : Stp (Rk S p vR) w (Rk S3 p vR) w3 :=
  ⟨hs.1.mono (fun k _ h => .inl h), fun k hk => by
    rcases hk with h | h | h
    · rcases hs.2 k h with h1 | h1
      · exact .inl (.inl h1)
      · exact .inr h1
    · exact .inl (.inr (.inl h))
    · exact .inl (.inr (.inr h))⟩
/-- The ring behind an append of a record to its row, and the stores of row and next. -/
theorem RD.grown {S : Nat → Prop} {vR v5 : Value} {w4 w5 : World} {p d f c s n n' e : Nat} {L : List Rc} {x : Rc} {D : Dsk} (h : RD S vR w4 p d f c s n e L D) (o5 : w5.ownsRow 0 70 3 v5 (L.length + 1) (L.flatMap rcells ++ rcells x))
    (t5 : Turn (fun k => vR.ownBlock = some k) w4 w5) (hv : ∀ k, v5.ownBlock = some k → vR.ownBlock = some k ∨ w4.heap.size ≤ k) :
    RD S v5 ((w5.setCell ⟨p, 6, none⟩ v5).setCell ⟨p, 4, none⟩ (.int .i64 n')) p d f c s n' e (L ++ [x]) D ∧ Stp (Rk S p vR) w4 (Rk S p v5) ((w5.setCell ⟨p, 6, none⟩ v5).setCell ⟨p, 4, none⟩ (.int .i64 n')) := by
  have hpv : ¬ vR.ownBlock = some p := h.row.blk h.blk (by decide)
  have hb5 : RgB w5 p d f c s n e vR := h.blk.turn t5 hpv
  have hpv5 : ¬ v5.ownBlock = some p := own_blk5 o5 hb5 (by decide)
  have tp : Turn (fun k => k = p) w5 ((w5.setCell ⟨p, 6, none⟩ v5).setCell ⟨p, 4, none⟩ (.int .i64 n')) := ((Turn.refl (fun k => k = p) w5).setCell (p := ⟨p, 6, none⟩) (.inl rfl) v5).setCell (p := ⟨p, 4, none⟩) (.inl rfl) _
  have hl := h.disk.lt
  have tt : Turn (fun k => vR.ownBlock = some k ∨ k = p) w4 ((w5.setCell ⟨p, 6, none⟩ v5).setCell ⟨p, 4, none⟩ (.int .i64 n')) := (t5.mono (fun k _ hk => Or.inl hk)).trans (tp.mono (fun k _ hk => Or.inr hk))
  refine ⟨⟨h.disk.turn tt (fun k hk h2 => by
      rcases h2 with h2 | h2
      · exact h.sv k h2 hk
      · subst h2; exact h.sp hk), (hb5.put 6 v5).put 4 _, ?_, h.sp, fun k hk h2 => ?_⟩, ⟨tt.mono (fun k _ hk => by
      rcases hk with h2 | h2
      · exact .inr (.inr h2)
      · exact .inr (.inl h2)), fun k hk => ?_⟩⟩
  · refine .inl ?_
    rw [List.length_append, List.flatMap_append]
    have h2 : ([x] : List Rc).flatMap rcells = rcells x := by simp [List.flatMap_cons]
    rw [h2]
    exact World.ownsRow.turn5 o5 tp (fun k hk h3 => by subst h3; exact hpv5 hk)
  · rcases hv k hk with h3 | h3
    · exact h.sv k h3 h2
    · have := hl k h2
      omega
  · rcases hk with h2 | h2 | h2
    · exact .inl (.inl h2)
    · exact .inl (.inr (.inl h2))
    · rcases hv k h2 with h3 | h3
      · exact .inl (.inr (.inr h3))
      · exact .inr h3
/-- Join of one record's slots. -/
theorem join_one (S : ByteArray) (e q : Int) (h : Cuts S e q) (hq : q ≤ 1152921504606846976) (hq0 : q ≤ 1125899906842624) (b c : Nat) (w : World) (ho : w.ownsRow 0 81 5 (.slice (some ⟨b, 0, none⟩) (pcs5 S).length c) (pcs5 S).length ((mk5 (raw5 e q (pcs5 S))).flatMap scells)) :
    Calls Try.prog 24 #[.slice (some ⟨b, 0, none⟩) (pcs5 S).length c] w fun r w' => ∃ v', r = .returned (.tuple #[v', .int .i64 (q + ((pcs5 S).length : Int))]) ∧ w'.ownsRow w.heap.size 70 3 v' 1 (rcells ⟨q, q + ((pcs5 S).length : Int), S⟩) ∧ Below w.heap.size w w' := by
  have hp := pcs_few S h.1
  have ht : tot [S] = (pcs5 S).length := by show pn S + 0 = _; rfl
  have hr : rows5 e q [S] = mk5 (raw5 e q (pcs5 S)) := by show _ ++ [] = _; rw [List.append_nil]
  have hrec : recs5 q [S] (pcs5 S).length = [⟨q, q + ((pcs5 S).length : Int), S⟩] := by
    show (if pn S ≤ (pcs5 S).length then _ else _) = _
    rw [if_pos (show pn S ≤ (pcs5 S).length from Nat.le_refl _)]; rfl
  have hw : want5 q [S] (pcs5 S).length = q + ((pcs5 S).length : Int) := by
    show (if pn S ≤ (pcs5 S).length then _ else _) = _
    rw [if_pos (show pn S ≤ (pcs5 S).length from Nat.le_refl _)]; rfl
  have hcap : (pcs5 S).length ≤ c := by
    rcases ho.2 with ⟨h1, _⟩ | ⟨g, cap, cur, h1, _, _, h2, _⟩
    · cases h1
    · injection h1 with _ _ h3; omega
  have hj := join_rows [S] e q (fun _ => ⟨h.2.1, h.2.2.1⟩) ⟨h.2.2.2.1, hq0⟩ (by rw [ht]; omega) (pcs5 S).length (by rw [ht]; exact Nat.le_refl _) (some ⟨b, 0, none⟩) c c hcap w (by rw [ht, hr]; exact Row5.own ho (by rw [len_mk5, len_raw5]))
  refine hj.mono ?_
  rintro r w' ⟨v', nx, rfl, hro, hnx, hb⟩
  rw [hrec] at hro
  rcases hnx with h1 | ⟨h1, _⟩
  · rw [h1, hw]
    refine ⟨v', rfl, ?_, hb⟩
    have h2 : ([(⟨q, q + ((pcs5 S).length : Int), S⟩ : Rc)]).flatMap rcells = rcells ⟨q, q + ((pcs5 S).length : Int), S⟩ := by simp [List.flatMap_cons]
    rw [h2] at hro
    exact hro
  · omega
/-- A record that can't be cut is refused. -/
theorem append_no {S : Nat → Prop} {vR : Value} {w : World} {p d f c s n e : Nat} {L : List Rc} {D : Dsk} (h : RD S vR w p d f c s n e L D) (hn : n ≤ 1152921504606846977) (T : ByteArray) (hT : ¬ Cuts T e n) :
    Calls Try.prog 9 #[.pointer (some ⟨p, 0, none⟩), .string T] w fun r w' => ∃ x : Int, (x != 0) = true ∧ r = .returned (.int .i64 x) ∧ Turn (fun _ => False) w w' := by
  obtain ⟨x, hx, hxc⟩ := cut_no T e n (by omega) (by omega) hT
  have hp0 := h.blk
  have HM := Lib.hid (fun W (k : RgB W p d f c s n e vR) => ringMade p d f c s n e vR W k)
  have HB := Lib.hid h.blk
  have hplt := h.blk.lt
  have HCT : Hid (∀ W, Calls Try.prog 26 #[.string T, .int .i64 e, .int .i64 n] W fun r w' => ∃ v, r = .returned v ∧ (v = .tuple #[.slice none 0 0, .int .i64 x] ∧ Below W.heap.size W w')) := Lib.hid (fun W => (hxc W).mono (fun r w' h => ⟨_, h.1, rfl, h.2⟩))
  clear hxc h hp0
  go_enter Try.func9, Try.ntmps9
  go_wp2_with (go_at_call 25; refine (HM.out _ HB.out).mono ?_; rintro r w0 ⟨rfl, rfl⟩)
  refine wp_region_noPanic ?_
  refine wp_region_held_drew (S := fun X => X.cell? ⟨p, 5, none⟩ = some (.int .i64 e) ∧ X.cell? ⟨p, 4, none⟩ = some (.int .i64 n)) (by kernel_rfl) ⟨HB.out.drew.cell 5, HB.out.drew.cell 4⟩ (fun hHeld => ?_)
  -- region no
  refine wpAnyH_take (i := 0) (v := ?_) rfl (by kernel_rfl) (by kernel_rfl) (by kernel_rfl) (fun _ _ _ h => h) (Or.inl ⟨by rfl, ?_⟩) (by assumption) ?_
  rotate_left 1
  · intro w' hSw
    go_simp
    all_goals first | with_reducible rfl | (rw [if_neg (by omega)]; done) | (rw [if_pos (by omega)]; done) | (rw [if_neg (by omega)]; with_reducible rfl) | (rw [if_pos (by omega)]; with_reducible rfl)
  try simp only [List.getElem_toArray, List.getElem_cons_zero, Act.put, List.setIfInBounds_toArray, List.set_cons_zero, List.set_cons_succ]
  refine wpAnyH_take (i := 1) (v := ?_) rfl (by kernel_rfl) (by kernel_rfl) (by kernel_rfl) (fun _ _ _ h => h) (Or.inl ⟨by rfl, ?_⟩) (by assumption) ?_
  rotate_left 1
  · intro w' hSw
    go_simp
    all_goals first | with_reducible rfl | (rw [if_neg (by omega)]; done) | (rw [if_pos (by omega)]; done) | (rw [if_neg (by omega)]; with_reducible rfl) | (rw [if_pos (by omega)]; with_reducible rfl)
  try simp only [List.getElem_toArray, List.getElem_cons_zero, List.getElem_cons_succ, Act.put, List.setIfInBounds_toArray, List.set_cons_zero, List.set_cons_succ]
  refine wpAnyH_take (i := 2) (v := ?_) rfl (by kernel_rfl) (by kernel_rfl) (by kernel_rfl) (fun _ _ _ h => h) (Or.inl ⟨by rfl, ?_⟩) (by assumption) ?_
  rotate_left 1
  · intro w' hSw
    go_simp
    all_goals first | with_reducible rfl | (rw [if_neg (by omega)]; done) | (rw [if_pos (by omega)]; done) | (rw [if_neg (by omega)]; with_reducible rfl) | (rw [if_pos (by omega)]; with_reducible rfl)
  try simp only [List.getElem_toArray, List.getElem_cons_zero, List.getElem_cons_succ, Act.put, List.setIfInBounds_toArray, List.set_cons_zero, List.set_cons_succ]
  refine wpAnyH_take (i := 3) (v := ?_) rfl (by kernel_rfl) (by kernel_rfl) (by kernel_rfl) (fun _ _ _ h => h) (Or.inl ⟨by rfl, ?_⟩) (by assumption) ?_
  rotate_left 1
  · intro w' hSw
    go_simp
    all_goals first | with_reducible rfl | (rw [if_neg (by omega)]; done) | (rw [if_pos (by omega)]; done) | (rw [if_neg (by omega)]; with_reducible rfl) | (rw [if_pos (by omega)]; with_reducible rfl)
  try simp only [List.getElem_toArray, List.getElem_cons_zero, List.getElem_cons_succ, Act.put, List.setIfInBounds_toArray, List.set_cons_zero, List.set_cons_succ]
  refine wpAnyH_take (i := 4) (v := ?_) rfl (by kernel_rfl) (by kernel_rfl) (by kernel_rfl) (fun _ _ _ h => h) (Or.inl ⟨by rfl, ?_⟩) (by assumption) ?_
  rotate_left 1
  · intro w' hSw
    obtain ⟨x0, x1⟩ := hSw
    go_simp
    all_goals first | with_reducible rfl | (rw [if_neg (by omega)]; done) | (rw [if_pos (by omega)]; done) | (rw [if_neg (by omega)]; with_reducible rfl) | (rw [if_pos (by omega)]; with_reducible rfl)
  try simp only [List.getElem_toArray, List.getElem_cons_zero, List.getElem_cons_succ, Act.put, List.setIfInBounds_toArray, List.set_cons_zero, List.set_cons_succ]
  refine wpAnyH_take (i := 5) (v := ?_) rfl (by kernel_rfl) (by kernel_rfl) (by kernel_rfl) (fun _ _ _ h => h) (Or.inl ⟨by rfl, ?_⟩) (by assumption) ?_
  rotate_left 1
  · intro w' hSw
    go_simp
    all_goals first | with_reducible rfl | (rw [if_neg (by omega)]; done) | (rw [if_pos (by omega)]; done) | (rw [if_neg (by omega)]; with_reducible rfl) | (rw [if_pos (by omega)]; with_reducible rfl)
  try simp only [List.getElem_toArray, List.getElem_cons_zero, List.getElem_cons_succ, Act.put, List.setIfInBounds_toArray, List.set_cons_zero, List.set_cons_succ]
  refine wpAnyH_take (i := 6) (v := ?_) rfl (by kernel_rfl) (by kernel_rfl) (by kernel_rfl) (fun _ _ _ h => h) (Or.inl ⟨by rfl, ?_⟩) (by assumption) ?_
  rotate_left 1
  · intro w' hSw
    go_simp
    all_goals first | with_reducible rfl | (rw [if_neg (by omega)]; done) | (rw [if_pos (by omega)]; done) | (rw [if_neg (by omega)]; with_reducible rfl) | (rw [if_pos (by omega)]; with_reducible rfl)
  try simp only [List.getElem_toArray, List.getElem_cons_zero, List.getElem_cons_succ, Act.put, List.setIfInBounds_toArray, List.set_cons_zero, List.set_cons_succ]
  refine wpAnyH_take (i := 7) (v := ?_) rfl (by kernel_rfl) (by kernel_rfl) (by kernel_rfl) (fun _ _ _ h => h) (Or.inl ⟨by rfl, ?_⟩) (by assumption) ?_
  rotate_left 1
  · intro w' hSw
    go_simp
    all_goals first | with_reducible rfl | (rw [if_neg (by omega)]; done) | (rw [if_pos (by omega)]; done) | (rw [if_neg (by omega)]; with_reducible rfl) | (rw [if_pos (by omega)]; with_reducible rfl)
  try simp only [List.getElem_toArray, List.getElem_cons_zero, List.getElem_cons_succ, Act.put, List.setIfInBounds_toArray, List.set_cons_zero, List.set_cons_succ]
  refine wpAnyH_take (i := 8) (v := ?_) rfl (by kernel_rfl) (by kernel_rfl) (by kernel_rfl) (fun _ _ _ h => h) (Or.inl ⟨by rfl, ?_⟩) (by assumption) ?_
  rotate_left 1
  · intro w' hSw
    obtain ⟨x0, x1⟩ := hSw
    go_simp
    all_goals first | with_reducible rfl | (rw [if_neg (by omega)]; done) | (rw [if_pos (by omega)]; done) | (rw [if_neg (by omega)]; with_reducible rfl) | (rw [if_pos (by omega)]; with_reducible rfl)
  try simp only [List.getElem_toArray, List.getElem_cons_zero, List.getElem_cons_succ, Act.put, List.setIfInBounds_toArray, List.set_cons_zero, List.set_cons_succ]
  refine wpAnyH_ready (rs := [9]) (by kernel_rfl) (by simp) ?_
  refine AllReadyH.cons rfl (fun K hK => ?_) AllReadyH.nil
  refine step_call rfl 26 Try.f26 _ _ rfl Try.func26 (by kernel_rfl) (by kernel_rfl) _ _ (HCT.out _) (by go_simp) ?_
  rintro v1 w1 ⟨rfl, hb1⟩
  have HB1 := Lib.hid (HB.out.drew.below hb1 (show p < w0.drew.heap.size from hplt))
  refine hK.out _ _ ⟨HB1.out.cell 5, HB1.out.cell 4⟩ (fun hHeld => ?_)
  clear hK K
  try simp only [List.getElem_toArray, List.getElem_cons_zero, List.getElem_cons_succ, Act.put, List.setIfInBounds_toArray, List.set_cons_zero, List.set_cons_succ]
  refine wpAnyH_take (i := 10) (v := ?_) rfl (by kernel_rfl) (by kernel_rfl) (by kernel_rfl) (fun _ _ _ h => h) (Or.inl ⟨by rfl, ?_⟩) (by assumption) ?_
  rotate_left 1
  · intro w' hSw
    go_simp
    all_goals first | with_reducible rfl | (rw [if_neg (by omega)]; done) | (rw [if_pos (by omega)]; done) | (rw [if_neg (by omega)]; with_reducible rfl) | (rw [if_pos (by omega)]; with_reducible rfl)
  try simp only [List.getElem_toArray, List.getElem_cons_zero, List.getElem_cons_succ, Act.put, List.setIfInBounds_toArray, List.set_cons_zero, List.set_cons_succ]
  refine wpAnyH_take (i := 11) (v := ?_) rfl (by kernel_rfl) (by kernel_rfl) (by kernel_rfl) (fun _ _ _ h => h) (Or.inl ⟨by rfl, ?_⟩) (by assumption) ?_
  rotate_left 1
  · intro w' hSw
    go_simp
    all_goals first | with_reducible rfl | (rw [if_neg (by omega)]; done) | (rw [if_pos (by omega)]; done) | (rw [if_neg (by omega)]; with_reducible rfl) | (rw [if_pos (by omega)]; with_reducible rfl)
  try simp only [List.getElem_toArray, List.getElem_cons_zero, List.getElem_cons_succ, Act.put, List.setIfInBounds_toArray, List.set_cons_zero, List.set_cons_succ]
  refine wpAnyH_take (i := 12) (v := ?_) rfl (by kernel_rfl) (by kernel_rfl) (by kernel_rfl) (fun _ _ _ h => h) (Or.inl ⟨by rfl, ?_⟩) (by assumption) ?_
  rotate_left 1
  · intro w' hSw
    go_simp
    all_goals first | with_reducible rfl | (rw [if_neg (by omega)]; done) | (rw [if_pos (by omega)]; done) | (rw [if_neg (by omega)]; with_reducible rfl) | (rw [if_pos (by omega)]; with_reducible rfl)
  try simp only [List.getElem_toArray, List.getElem_cons_zero, List.getElem_cons_succ, Act.put, List.setIfInBounds_toArray, List.set_cons_zero, List.set_cons_succ]
  refine wpAnyH_take (i := 13) (v := ?_) rfl (by kernel_rfl) (by kernel_rfl) (by kernel_rfl) (fun _ _ _ h => h) (Or.inl ⟨by rfl, ?_⟩) (by assumption) ?_
  rotate_left 1
  · intro w' hSw
    go_simp
    all_goals first | with_reducible rfl | (rw [if_neg (by omega)]; done) | (rw [if_pos (by omega)]; done) | (rw [if_neg (by omega)]; with_reducible rfl) | (rw [if_pos (by omega)]; with_reducible rfl)
  try simp only [List.getElem_toArray, List.getElem_cons_zero, List.getElem_cons_succ, Act.put, List.setIfInBounds_toArray, List.set_cons_zero, List.set_cons_succ]
  refine wpAnyH_take (i := 14) (v := ?_) rfl (by kernel_rfl) (by kernel_rfl) (by kernel_rfl) (fun _ _ _ h => h) (Or.inl ⟨by rfl, ?_⟩) (by assumption) ?_
  rotate_left 1
  · intro w' hSw
    go_simp
    all_goals first | with_reducible rfl | (rw [if_neg (by omega)]; done) | (rw [if_pos (by omega)]; done) | (rw [if_neg (by omega)]; with_reducible rfl) | (rw [if_pos (by omega)]; with_reducible rfl)
  try simp only [List.getElem_toArray, List.getElem_cons_zero, List.getElem_cons_succ, Act.put, List.setIfInBounds_toArray, List.set_cons_zero, List.set_cons_succ]
  refine wpAnyH_done (by kernel_rfl) ?_ _
  refine NoPanic.normal ?_
  -- region no end
  have T1 := Lib.hid (((Turn.refl (fun _ => False) w0).drew).trans (Turn.of_below (S := fun _ => False) hb1 (fun k h1 h2 => by omega)))
  clear hHeld hb1
  go_wp2_with fail
  go_ret
  exact ⟨x, hx, rfl, T1.out⟩
/-- A record that has no room is refused. -/
theorem append_full {S : Nat → Prop} {vR : Value} {w : World} {p d f c s n e : Nat} {L : List Rc} {D : Dsk} (h : RD S vR w p d f c s n e L D) (hc : c ≤ 16384) (hs : s ≤ 1152921504606846976) (hn : n ≤ 1152921504606846976) (T : ByteArray) (hT : Cuts T e n) (hroom : min ((s : Int) + c) 1152921504606846977 - n < ((pcs5 T).length : Int)) :
    Calls Try.prog 9 #[.pointer (some ⟨p, 0, none⟩), .string T] w fun r w' => r = .returned (.int .i64 11) ∧ Turn (fun _ => False) w w' := by
  have HM := Lib.hid (fun W (k : RgB W p d f c s n e vR) => ringMade p d f c s n e vR W k)
  have HB := Lib.hid h.blk
  have hplt := h.blk.lt
  have hk := pcs_few T hT.1
  have HRM := Lib.hid (fun W (k : RgB W p d f c s n e vR) => ringRoom p d f c s n e hc hs (by omega) vR W k)
  have HCT : Hid (∀ W, Calls Try.prog 26 #[.string T, .int .i64 e, .int .i64 n] W fun r w' => ∃ v, r = .returned v ∧ ∃ b c, v = .tuple #[.slice (some ⟨b, 0, none⟩) (pcs5 T).length c, .int .i64 0] ∧ w'.ownsRow W.heap.size 81 5 (.slice (some ⟨b, 0, none⟩) (pcs5 T).length c) (pcs5 T).length ((mk5 (raw5 e n (pcs5 T))).flatMap scells) ∧ b < w'.heap.size ∧ (pcs5 T).length ≤ c ∧ Below W.heap.size W w') := Lib.hid (fun W => (cut_yes T e n hT W).mono (fun r w' h => by obtain ⟨b, c, h1, h2, h3, h4, h5⟩ := h; exact ⟨_, h1, b, c, rfl, h2, h3, h4, h5⟩))
  obtain ⟨K, hK⟩ : ∃ K, (pcs5 T).length = K := ⟨_, rfl⟩
  rw [hK] at HCT hk hroom
  clear hT hK
  generalize mk5 (raw5 (e : Int) (n : Int) (pcs5 T)) = X at *
  generalize min ((s : Int) + c) 1152921504606846977 - n = rm at *
  go_enter Try.func9, Try.ntmps9
  go_wp2_with (go_at_call 25; refine (HM.out _ HB.out).mono ?_; rintro r w0 ⟨rfl, rfl⟩)
  refine wp_region_noPanic ?_
  refine wp_region_held_drew (S := fun X => X.cell? ⟨p, 5, none⟩ = some (.int .i64 e) ∧ X.cell? ⟨p, 4, none⟩ = some (.int .i64 n)) (by kernel_rfl) ⟨HB.out.drew.cell 5, HB.out.drew.cell 4⟩ (fun hHeld => ?_)
  -- region full
  refine wpAnyH_take (i := 0) (v := ?_) rfl (by kernel_rfl) (by kernel_rfl) (by kernel_rfl) (fun _ _ _ h => h) (Or.inl ⟨by rfl, ?_⟩) (by assumption) ?_
  rotate_left 1
  · intro w' hSw
    go_simp
    all_goals first | with_reducible rfl | (rw [if_neg (by omega)]; done) | (rw [if_pos (by omega)]; done) | (rw [if_neg (by omega)]; with_reducible rfl) | (rw [if_pos (by omega)]; with_reducible rfl)
  try simp only [List.getElem_toArray, List.getElem_cons_zero, Act.put, List.setIfInBounds_toArray, List.set_cons_zero, List.set_cons_succ]
  refine wpAnyH_take (i := 1) (v := ?_) rfl (by kernel_rfl) (by kernel_rfl) (by kernel_rfl) (fun _ _ _ h => h) (Or.inl ⟨by rfl, ?_⟩) (by assumption) ?_
  rotate_left 1
  · intro w' hSw
    go_simp
    all_goals first | with_reducible rfl | (rw [if_neg (by omega)]; done) | (rw [if_pos (by omega)]; done) | (rw [if_neg (by omega)]; with_reducible rfl) | (rw [if_pos (by omega)]; with_reducible rfl)
  try simp only [List.getElem_toArray, List.getElem_cons_zero, List.getElem_cons_succ, Act.put, List.setIfInBounds_toArray, List.set_cons_zero, List.set_cons_succ]
  refine wpAnyH_take (i := 2) (v := ?_) rfl (by kernel_rfl) (by kernel_rfl) (by kernel_rfl) (fun _ _ _ h => h) (Or.inl ⟨by rfl, ?_⟩) (by assumption) ?_
  rotate_left 1
  · intro w' hSw
    go_simp
    all_goals first | with_reducible rfl | (rw [if_neg (by omega)]; done) | (rw [if_pos (by omega)]; done) | (rw [if_neg (by omega)]; with_reducible rfl) | (rw [if_pos (by omega)]; with_reducible rfl)
  try simp only [List.getElem_toArray, List.getElem_cons_zero, List.getElem_cons_succ, Act.put, List.setIfInBounds_toArray, List.set_cons_zero, List.set_cons_succ]
  refine wpAnyH_take (i := 3) (v := ?_) rfl (by kernel_rfl) (by kernel_rfl) (by kernel_rfl) (fun _ _ _ h => h) (Or.inl ⟨by rfl, ?_⟩) (by assumption) ?_
  rotate_left 1
  · intro w' hSw
    go_simp
    all_goals first | with_reducible rfl | (rw [if_neg (by omega)]; done) | (rw [if_pos (by omega)]; done) | (rw [if_neg (by omega)]; with_reducible rfl) | (rw [if_pos (by omega)]; with_reducible rfl)
  try simp only [List.getElem_toArray, List.getElem_cons_zero, List.getElem_cons_succ, Act.put, List.setIfInBounds_toArray, List.set_cons_zero, List.set_cons_succ]
  refine wpAnyH_take (i := 4) (v := ?_) rfl (by kernel_rfl) (by kernel_rfl) (by kernel_rfl) (fun _ _ _ h => h) (Or.inl ⟨by rfl, ?_⟩) (by assumption) ?_
  rotate_left 1
  · intro w' hSw
    obtain ⟨x0, x1⟩ := hSw
    go_simp
    all_goals first | with_reducible rfl | (rw [if_neg (by omega)]; done) | (rw [if_pos (by omega)]; done) | (rw [if_neg (by omega)]; with_reducible rfl) | (rw [if_pos (by omega)]; with_reducible rfl)
  try simp only [List.getElem_toArray, List.getElem_cons_zero, List.getElem_cons_succ, Act.put, List.setIfInBounds_toArray, List.set_cons_zero, List.set_cons_succ]
  refine wpAnyH_take (i := 5) (v := ?_) rfl (by kernel_rfl) (by kernel_rfl) (by kernel_rfl) (fun _ _ _ h => h) (Or.inl ⟨by rfl, ?_⟩) (by assumption) ?_
  rotate_left 1
  · intro w' hSw
    go_simp
    all_goals first | with_reducible rfl | (rw [if_neg (by omega)]; done) | (rw [if_pos (by omega)]; done) | (rw [if_neg (by omega)]; with_reducible rfl) | (rw [if_pos (by omega)]; with_reducible rfl)
  try simp only [List.getElem_toArray, List.getElem_cons_zero, List.getElem_cons_succ, Act.put, List.setIfInBounds_toArray, List.set_cons_zero, List.set_cons_succ]
  refine wpAnyH_take (i := 6) (v := ?_) rfl (by kernel_rfl) (by kernel_rfl) (by kernel_rfl) (fun _ _ _ h => h) (Or.inl ⟨by rfl, ?_⟩) (by assumption) ?_
  rotate_left 1
  · intro w' hSw
    go_simp
    all_goals first | with_reducible rfl | (rw [if_neg (by omega)]; done) | (rw [if_pos (by omega)]; done) | (rw [if_neg (by omega)]; with_reducible rfl) | (rw [if_pos (by omega)]; with_reducible rfl)
  try simp only [List.getElem_toArray, List.getElem_cons_zero, List.getElem_cons_succ, Act.put, List.setIfInBounds_toArray, List.set_cons_zero, List.set_cons_succ]
  refine wpAnyH_take (i := 7) (v := ?_) rfl (by kernel_rfl) (by kernel_rfl) (by kernel_rfl) (fun _ _ _ h => h) (Or.inl ⟨by rfl, ?_⟩) (by assumption) ?_
  rotate_left 1
  · intro w' hSw
    go_simp
    all_goals first | with_reducible rfl | (rw [if_neg (by omega)]; done) | (rw [if_pos (by omega)]; done) | (rw [if_neg (by omega)]; with_reducible rfl) | (rw [if_pos (by omega)]; with_reducible rfl)
  try simp only [List.getElem_toArray, List.getElem_cons_zero, List.getElem_cons_succ, Act.put, List.setIfInBounds_toArray, List.set_cons_zero, List.set_cons_succ]
  refine wpAnyH_take (i := 8) (v := ?_) rfl (by kernel_rfl) (by kernel_rfl) (by kernel_rfl) (fun _ _ _ h => h) (Or.inl ⟨by rfl, ?_⟩) (by assumption) ?_
  rotate_left 1
  · intro w' hSw
    obtain ⟨x0, x1⟩ := hSw
    go_simp
    all_goals first | with_reducible rfl | (rw [if_neg (by omega)]; done) | (rw [if_pos (by omega)]; done) | (rw [if_neg (by omega)]; with_reducible rfl) | (rw [if_pos (by omega)]; with_reducible rfl)
  try simp only [List.getElem_toArray, List.getElem_cons_zero, List.getElem_cons_succ, Act.put, List.setIfInBounds_toArray, List.set_cons_zero, List.set_cons_succ]
  refine wpAnyH_ready (rs := [9]) (by kernel_rfl) (by simp) ?_
  refine AllReadyH.cons rfl (fun K hK => ?_) AllReadyH.nil
  refine step_call rfl 26 Try.f26 _ _ rfl Try.func26 (by kernel_rfl) (by kernel_rfl) _ _ (HCT.out _) (by go_simp) ?_
  rintro v1 w1 ⟨b1, c1, rfl, o1, m1, n1, hb1⟩
  have HB1 := Lib.hid (HB.out.drew.below hb1 (show p < w0.drew.heap.size from hplt))
  refine hK.out _ _ ⟨HB1.out.cell 5, HB1.out.cell 4⟩ (fun hHeld => ?_)
  clear hK K
  try simp only [List.getElem_toArray, List.getElem_cons_zero, List.getElem_cons_succ, Act.put, List.setIfInBounds_toArray, List.set_cons_zero, List.set_cons_succ]
  refine wpAnyH_take (i := 10) (v := ?_) rfl (by kernel_rfl) (by kernel_rfl) (by kernel_rfl) (fun _ _ _ h => h) (Or.inl ⟨by rfl, ?_⟩) (by assumption) ?_
  rotate_left 1
  · intro w' hSw
    go_simp
    all_goals first | with_reducible rfl | (rw [if_neg (by omega)]; done) | (rw [if_pos (by omega)]; done) | (rw [if_neg (by omega)]; with_reducible rfl) | (rw [if_pos (by omega)]; with_reducible rfl)
  try simp only [List.getElem_toArray, List.getElem_cons_zero, List.getElem_cons_succ, Act.put, List.setIfInBounds_toArray, List.set_cons_zero, List.set_cons_succ]
  refine wpAnyH_take (i := 11) (v := ?_) rfl (by kernel_rfl) (by kernel_rfl) (by kernel_rfl) (fun _ _ _ h => h) (Or.inl ⟨by rfl, ?_⟩) (by assumption) ?_
  rotate_left 1
  · intro w' hSw
    go_simp
    all_goals first | with_reducible rfl | (rw [if_neg (by omega)]; done) | (rw [if_pos (by omega)]; done) | (rw [if_neg (by omega)]; with_reducible rfl) | (rw [if_pos (by omega)]; with_reducible rfl)
  try simp only [List.getElem_toArray, List.getElem_cons_zero, List.getElem_cons_succ, Act.put, List.setIfInBounds_toArray, List.set_cons_zero, List.set_cons_succ]
  refine wpAnyH_take (i := 12) (v := ?_) rfl (by kernel_rfl) (by kernel_rfl) (by kernel_rfl) (fun _ _ _ h => h) (Or.inl ⟨by rfl, ?_⟩) (by assumption) ?_
  rotate_left 1
  · intro w' hSw
    go_simp
    all_goals first | with_reducible rfl | (rw [if_neg (by omega)]; done) | (rw [if_pos (by omega)]; done) | (rw [if_neg (by omega)]; with_reducible rfl) | (rw [if_pos (by omega)]; with_reducible rfl)
  try simp only [List.getElem_toArray, List.getElem_cons_zero, List.getElem_cons_succ, Act.put, List.setIfInBounds_toArray, List.set_cons_zero, List.set_cons_succ]
  refine wpAnyH_take (i := 13) (v := ?_) rfl (by kernel_rfl) (by kernel_rfl) (by kernel_rfl) (fun _ _ _ h => h) (Or.inl ⟨by rfl, ?_⟩) (by assumption) ?_
  rotate_left 1
  · intro w' hSw
    go_simp
    all_goals first | with_reducible rfl | (rw [if_neg (by omega)]; done) | (rw [if_pos (by omega)]; done) | (rw [if_neg (by omega)]; with_reducible rfl) | (rw [if_pos (by omega)]; with_reducible rfl)
  try simp only [List.getElem_toArray, List.getElem_cons_zero, List.getElem_cons_succ, Act.put, List.setIfInBounds_toArray, List.set_cons_zero, List.set_cons_succ]
  refine wpAnyH_take (i := 14) (v := ?_) rfl (by kernel_rfl) (by kernel_rfl) (by kernel_rfl) (fun _ _ _ h => h) (Or.inl ⟨by rfl, ?_⟩) (by assumption) ?_
  rotate_left 1
  · intro w' hSw
    go_simp
    all_goals first | with_reducible rfl | (rw [if_neg (by omega)]; done) | (rw [if_pos (by omega)]; done) | (rw [if_neg (by omega)]; with_reducible rfl) | (rw [if_pos (by omega)]; with_reducible rfl)
  try simp only [List.getElem_toArray, List.getElem_cons_zero, List.getElem_cons_succ, Act.put, List.setIfInBounds_toArray, List.set_cons_zero, List.set_cons_succ]
  refine wpAnyH_done (by kernel_rfl) ?_ _
  refine NoPanic.normal ?_
  -- region full end
  have T1 := Lib.hid (((Turn.refl (fun _ => False) w0).drew).trans (Turn.of_below (S := fun _ => False) hb1 (fun k h1 h2 => by omega)))
  clear hHeld hb1 o1
  go_wp2_with fail
  refine (HRM.out _ HB1.out).mono ?_
  rintro r w2 ⟨rfl, rfl⟩
  go_wp2_with fail
  go_ret
  exact ⟨rfl, T1.out.drew⟩
set_option maxHeartbeats 4000000 in
/-- A record that has room is written, and is the last one, or the disk's error stops it. -/
theorem append_put {S : Nat → Prop} {vR : Value} {w : World} {p d f c s n e : Nat} {L : List Rc} {D : Dsk} (h : RD S vR w p d f c s n e L D) (hf : f ≤ 16384) (hc0 : 0 < c) (hc : c ≤ 16384) (hs : s ≤ 1152921504606846976) (hn : n ≤ 1125899906842624) (hL : L.length ≤ 1000000) (hpd : D.pend.length < 900000000) (T : ByteArray) (hT : Cuts T e n)
    (hroom : ((pcs5 T).length : Int) ≤ min ((s : Int) + c) 1152921504606846977 - n) :
    Calls Try.prog 9 #[.pointer (some ⟨p, 0, none⟩), .string T] w fun r w' => r = .returned (.int .i64 (puts f c D (mk5 (raw5 e n (pcs5 T)))).2) ∧ ∃ S' vR', Stp (Rk S p vR) w (Rk S' p vR') w' ∧
      (((puts f c D (mk5 (raw5 e n (pcs5 T)))).2 ≠ 0 ∧ RD S' vR' w' p d f c s n e L (puts f c D (mk5 (raw5 e n (pcs5 T)))).1) ∨
        ((puts f c D (mk5 (raw5 e n (pcs5 T)))).2 = 0 ∧ RD S' vR' w' p d f c s (n + (pcs5 T).length) e (L ++ [⟨n, (n : Int) + ((pcs5 T).length : Int), T⟩]) (puts f c D (mk5 (raw5 e n (pcs5 T)))).1)) := by
  obtain ⟨iR, hiR, hr1, hr2, hr3⟩ := info_parts Try.infoRecord
  have HM := Lib.hid (fun W (k : RgB W p d f c s n e vR) => ringMade p d f c s n e vR W k)
  have HB := Lib.hid h.blk
  have HH := Lib.hid h
  have hplt := h.blk.lt
  have hk := pcs_few T hT.1
  have HRM := Lib.hid (fun W (k : RgB W p d f c s n e vR) => ringRoom p d f c s n e hc hs (by omega) vR W k)
  have HCT : Hid (∀ W, Calls Try.prog 26 #[.string T, .int .i64 e, .int .i64 n] W fun r w' => ∃ v, r = .returned v ∧ ∃ b c, v = .tuple #[.slice (some ⟨b, 0, none⟩) (pcs5 T).length c, .int .i64 0] ∧ w'.ownsRow W.heap.size 81 5 (.slice (some ⟨b, 0, none⟩) (pcs5 T).length c) (pcs5 T).length ((mk5 (raw5 e n (pcs5 T))).flatMap scells) ∧ b < w'.heap.size ∧ (pcs5 T).length ≤ c ∧ Below W.heap.size W w') := Lib.hid (fun W => (cut_yes T e n hT W).mono (fun r w' h => by obtain ⟨b, c, h1, h2, h3, h4, h5⟩ := h; exact ⟨_, h1, b, c, rfl, h2, h3, h4, h5⟩))
  have HJ := Lib.hid (fun b cc W ho => join_one T e n hT (by omega) (by omega) b cc W ho)
  have hsr := SeqRow.cut (e : Int) (n : Int) T ⟨by omega, by have := hT.2.2.2.2; omega⟩
  have hlx : (mk5 (raw5 (e : Int) (n : Int) (pcs5 T))).length = (pcs5 T).length := by rw [len_mk5, len_raw5]
  have hrr : ∀ x ∈ mk5 (raw5 (e : Int) (n : Int) (pcs5 T)), r5 x = true := fun x hx => by
    obtain ⟨i, hi⟩ := List.getElem?_of_mem hx
    have hlt := (List.getElem?_eq_some_iff.1 hi).1
    rw [hlx] at hlt
    obtain ⟨a1, a2, a3⟩ := hsr i x hi
    have h1 := hT.2.1
    have h2 := hT.2.2.1
    have h3 := hT.2.2.2.2
    exact decide_eq_true (by omega)
  have HWR := Lib.hid (fun W (hd : Dq S W d D) A cap hl => regionWrite S d D f c hf hc0 hc (mk5 (raw5 (e : Int) (n : Int) (pcs5 T))) (by rw [hlx]; omega) hrr A cap W hd hpd hl)
  rw [hlx] at HWR
  clear hT hsr hlx hrr h
  generalize mk5 (raw5 (e : Int) (n : Int) (pcs5 T)) = X at *
  generalize (pcs5 T).length = K at *
  generalize hrm : min ((s : Int) + c) 1152921504606846977 - n = rm at *
  clear hrm
  obtain ⟨PX, hPX⟩ : ∃ PX, puts f c D X = PX := ⟨_, rfl⟩
  rw [hPX] at HWR ⊢
  clear hPX
  have z1 := wrap_of ((n : Int) + (K : Int)) (by omega) (by omega)
  go_enter Try.func9, Try.ntmps9
  go_wp2_with (go_at_call 25; refine (HM.out _ HB.out).mono ?_; rintro r w0 ⟨rfl, rfl⟩)
  refine wp_region_noPanic ?_
  refine wp_region_held_drew (S := fun X => X.cell? ⟨p, 5, none⟩ = some (.int .i64 e) ∧ X.cell? ⟨p, 4, none⟩ = some (.int .i64 n)) (by kernel_rfl) ⟨HB.out.drew.cell 5, HB.out.drew.cell 4⟩ (fun hHeld => ?_)
  -- region put
  refine wpAnyH_take (i := 0) (v := ?_) rfl (by kernel_rfl) (by kernel_rfl) (by kernel_rfl) (fun _ _ _ h => h) (Or.inl ⟨by rfl, ?_⟩) (by assumption) ?_
  rotate_left 1
  · intro w' hSw
    go_simp
    all_goals first | with_reducible rfl | (rw [if_neg (by omega)]; done) | (rw [if_pos (by omega)]; done) | (rw [if_neg (by omega)]; with_reducible rfl) | (rw [if_pos (by omega)]; with_reducible rfl)
  try simp only [List.getElem_toArray, List.getElem_cons_zero, Act.put, List.setIfInBounds_toArray, List.set_cons_zero, List.set_cons_succ]
  refine wpAnyH_take (i := 1) (v := ?_) rfl (by kernel_rfl) (by kernel_rfl) (by kernel_rfl) (fun _ _ _ h => h) (Or.inl ⟨by rfl, ?_⟩) (by assumption) ?_
  rotate_left 1
  · intro w' hSw
    go_simp
    all_goals first | with_reducible rfl | (rw [if_neg (by omega)]; done) | (rw [if_pos (by omega)]; done) | (rw [if_neg (by omega)]; with_reducible rfl) | (rw [if_pos (by omega)]; with_reducible rfl)
  try simp only [List.getElem_toArray, List.getElem_cons_zero, List.getElem_cons_succ, Act.put, List.setIfInBounds_toArray, List.set_cons_zero, List.set_cons_succ]
  refine wpAnyH_take (i := 2) (v := ?_) rfl (by kernel_rfl) (by kernel_rfl) (by kernel_rfl) (fun _ _ _ h => h) (Or.inl ⟨by rfl, ?_⟩) (by assumption) ?_
  rotate_left 1
  · intro w' hSw
    go_simp
    all_goals first | with_reducible rfl | (rw [if_neg (by omega)]; done) | (rw [if_pos (by omega)]; done) | (rw [if_neg (by omega)]; with_reducible rfl) | (rw [if_pos (by omega)]; with_reducible rfl)
  try simp only [List.getElem_toArray, List.getElem_cons_zero, List.getElem_cons_succ, Act.put, List.setIfInBounds_toArray, List.set_cons_zero, List.set_cons_succ]
  refine wpAnyH_take (i := 3) (v := ?_) rfl (by kernel_rfl) (by kernel_rfl) (by kernel_rfl) (fun _ _ _ h => h) (Or.inl ⟨by rfl, ?_⟩) (by assumption) ?_
  rotate_left 1
  · intro w' hSw
    go_simp
    all_goals first | with_reducible rfl | (rw [if_neg (by omega)]; done) | (rw [if_pos (by omega)]; done) | (rw [if_neg (by omega)]; with_reducible rfl) | (rw [if_pos (by omega)]; with_reducible rfl)
  try simp only [List.getElem_toArray, List.getElem_cons_zero, List.getElem_cons_succ, Act.put, List.setIfInBounds_toArray, List.set_cons_zero, List.set_cons_succ]
  refine wpAnyH_take (i := 4) (v := ?_) rfl (by kernel_rfl) (by kernel_rfl) (by kernel_rfl) (fun _ _ _ h => h) (Or.inl ⟨by rfl, ?_⟩) (by assumption) ?_
  rotate_left 1
  · intro w' hSw
    obtain ⟨x0, x1⟩ := hSw
    go_simp
    all_goals first | with_reducible rfl | (rw [if_neg (by omega)]; done) | (rw [if_pos (by omega)]; done) | (rw [if_neg (by omega)]; with_reducible rfl) | (rw [if_pos (by omega)]; with_reducible rfl)
  try simp only [List.getElem_toArray, List.getElem_cons_zero, List.getElem_cons_succ, Act.put, List.setIfInBounds_toArray, List.set_cons_zero, List.set_cons_succ]
  refine wpAnyH_take (i := 5) (v := ?_) rfl (by kernel_rfl) (by kernel_rfl) (by kernel_rfl) (fun _ _ _ h => h) (Or.inl ⟨by rfl, ?_⟩) (by assumption) ?_
  rotate_left 1
  · intro w' hSw
    go_simp
    all_goals first | with_reducible rfl | (rw [if_neg (by omega)]; done) | (rw [if_pos (by omega)]; done) | (rw [if_neg (by omega)]; with_reducible rfl) | (rw [if_pos (by omega)]; with_reducible rfl)
  try simp only [List.getElem_toArray, List.getElem_cons_zero, List.getElem_cons_succ, Act.put, List.setIfInBounds_toArray, List.set_cons_zero, List.set_cons_succ]
  refine wpAnyH_take (i := 6) (v := ?_) rfl (by kernel_rfl) (by kernel_rfl) (by kernel_rfl) (fun _ _ _ h => h) (Or.inl ⟨by rfl, ?_⟩) (by assumption) ?_
  rotate_left 1
  · intro w' hSw
    go_simp
    all_goals first | with_reducible rfl | (rw [if_neg (by omega)]; done) | (rw [if_pos (by omega)]; done) | (rw [if_neg (by omega)]; with_reducible rfl) | (rw [if_pos (by omega)]; with_reducible rfl)
  try simp only [List.getElem_toArray, List.getElem_cons_zero, List.getElem_cons_succ, Act.put, List.setIfInBounds_toArray, List.set_cons_zero, List.set_cons_succ]
  refine wpAnyH_take (i := 7) (v := ?_) rfl (by kernel_rfl) (by kernel_rfl) (by kernel_rfl) (fun _ _ _ h => h) (Or.inl ⟨by rfl, ?_⟩) (by assumption) ?_
  rotate_left 1
  · intro w' hSw
    go_simp
    all_goals first | with_reducible rfl | (rw [if_neg (by omega)]; done) | (rw [if_pos (by omega)]; done) | (rw [if_neg (by omega)]; with_reducible rfl) | (rw [if_pos (by omega)]; with_reducible rfl)
  try simp only [List.getElem_toArray, List.getElem_cons_zero, List.getElem_cons_succ, Act.put, List.setIfInBounds_toArray, List.set_cons_zero, List.set_cons_succ]
  refine wpAnyH_take (i := 8) (v := ?_) rfl (by kernel_rfl) (by kernel_rfl) (by kernel_rfl) (fun _ _ _ h => h) (Or.inl ⟨by rfl, ?_⟩) (by assumption) ?_
  rotate_left 1
  · intro w' hSw
    obtain ⟨x0, x1⟩ := hSw
    go_simp
    all_goals first | with_reducible rfl | (rw [if_neg (by omega)]; done) | (rw [if_pos (by omega)]; done) | (rw [if_neg (by omega)]; with_reducible rfl) | (rw [if_pos (by omega)]; with_reducible rfl)
  try simp only [List.getElem_toArray, List.getElem_cons_zero, List.getElem_cons_succ, Act.put, List.setIfInBounds_toArray, List.set_cons_zero, List.set_cons_succ]
  refine wpAnyH_ready (rs := [9]) (by kernel_rfl) (by simp) ?_
  refine AllReadyH.cons rfl (fun K hK => ?_) AllReadyH.nil
  refine step_call rfl 26 Try.f26 _ _ rfl Try.func26 (by kernel_rfl) (by kernel_rfl) _ _ (HCT.out _) (by go_simp) ?_
  rintro v1 w1 ⟨b1, c1, rfl, o1, m1, n1, hb1⟩
  have HB1 := Lib.hid (HB.out.drew.below hb1 (show p < w0.drew.heap.size from hplt))
  refine hK.out _ _ ⟨HB1.out.cell 5, HB1.out.cell 4⟩ (fun hHeld => ?_)
  clear hK K
  try simp only [List.getElem_toArray, List.getElem_cons_zero, List.getElem_cons_succ, Act.put, List.setIfInBounds_toArray, List.set_cons_zero, List.set_cons_succ]
  refine wpAnyH_take (i := 10) (v := ?_) rfl (by kernel_rfl) (by kernel_rfl) (by kernel_rfl) (fun _ _ _ h => h) (Or.inl ⟨by rfl, ?_⟩) (by assumption) ?_
  rotate_left 1
  · intro w' hSw
    go_simp
    all_goals first | with_reducible rfl | (rw [if_neg (by omega)]; done) | (rw [if_pos (by omega)]; done) | (rw [if_neg (by omega)]; with_reducible rfl) | (rw [if_pos (by omega)]; with_reducible rfl)
  try simp only [List.getElem_toArray, List.getElem_cons_zero, List.getElem_cons_succ, Act.put, List.setIfInBounds_toArray, List.set_cons_zero, List.set_cons_succ]
  refine wpAnyH_take (i := 11) (v := ?_) rfl (by kernel_rfl) (by kernel_rfl) (by kernel_rfl) (fun _ _ _ h => h) (Or.inl ⟨by rfl, ?_⟩) (by assumption) ?_
  rotate_left 1
  · intro w' hSw
    go_simp
    all_goals first | with_reducible rfl | (rw [if_neg (by omega)]; done) | (rw [if_pos (by omega)]; done) | (rw [if_neg (by omega)]; with_reducible rfl) | (rw [if_pos (by omega)]; with_reducible rfl)
  try simp only [List.getElem_toArray, List.getElem_cons_zero, List.getElem_cons_succ, Act.put, List.setIfInBounds_toArray, List.set_cons_zero, List.set_cons_succ]
  refine wpAnyH_take (i := 12) (v := ?_) rfl (by kernel_rfl) (by kernel_rfl) (by kernel_rfl) (fun _ _ _ h => h) (Or.inl ⟨by rfl, ?_⟩) (by assumption) ?_
  rotate_left 1
  · intro w' hSw
    go_simp
    all_goals first | with_reducible rfl | (rw [if_neg (by omega)]; done) | (rw [if_pos (by omega)]; done) | (rw [if_neg (by omega)]; with_reducible rfl) | (rw [if_pos (by omega)]; with_reducible rfl)
  try simp only [List.getElem_toArray, List.getElem_cons_zero, List.getElem_cons_succ, Act.put, List.setIfInBounds_toArray, List.set_cons_zero, List.set_cons_succ]
  refine wpAnyH_take (i := 13) (v := ?_) rfl (by kernel_rfl) (by kernel_rfl) (by kernel_rfl) (fun _ _ _ h => h) (Or.inl ⟨by rfl, ?_⟩) (by assumption) ?_
  rotate_left 1
  · intro w' hSw
    go_simp
    all_goals first | with_reducible rfl | (rw [if_neg (by omega)]; done) | (rw [if_pos (by omega)]; done) | (rw [if_neg (by omega)]; with_reducible rfl) | (rw [if_pos (by omega)]; with_reducible rfl)
  try simp only [List.getElem_toArray, List.getElem_cons_zero, List.getElem_cons_succ, Act.put, List.setIfInBounds_toArray, List.set_cons_zero, List.set_cons_succ]
  refine wpAnyH_take (i := 14) (v := ?_) rfl (by kernel_rfl) (by kernel_rfl) (by kernel_rfl) (fun _ _ _ h => h) (Or.inl ⟨by rfl, ?_⟩) (by assumption) ?_
  rotate_left 1
  · intro w' hSw
    go_simp
    all_goals first | with_reducible rfl | (rw [if_neg (by omega)]; done) | (rw [if_pos (by omega)]; done) | (rw [if_neg (by omega)]; with_reducible rfl) | (rw [if_pos (by omega)]; with_reducible rfl)
  try simp only [List.getElem_toArray, List.getElem_cons_zero, List.getElem_cons_succ, Act.put, List.setIfInBounds_toArray, List.set_cons_zero, List.set_cons_succ]
  refine wpAnyH_done (by kernel_rfl) ?_ _
  refine NoPanic.normal ?_
  -- region put end
  have T1 := Lib.hid (((Turn.refl (fun _ => False) w0).drew).trans (Turn.of_below (S := fun _ => False) hb1 (fun k h1 h2 => by omega)))
  have O1 := Lib.hid o1
  have hb1lt : w0.heap.size ≤ b1 := World.ownsRow.base5 o1 b1 rfl
  clear hHeld hb1 o1
  go_wp2_with fail
  refine (HRM.out _ HB1.out).mono ?_
  rintro r w2 ⟨rfl, rfl⟩
  have H2 := Lib.hid (HH.out.quiet T1.out.drew)
  have x0 := H2.out.blk.cell 0
  have x1 := H2.out.blk.cell 1
  have x2 := H2.out.blk.cell 2
  simp only [List.getElem?_cons_zero, List.getElem?_cons_succ] at x0 x1 x2
  have O2 := Lib.hid (World.ownsRow.drew O1.out)
  go_wp2_with fail
  refine (HWR.out _ H2.out.disk (some ⟨b1, 0, none⟩) c1 (fun _ => by
    obtain ⟨rest, hr⟩ := row_blk5 O2.out
    exact ⟨b1, rest, rfl, (fun hk => by have := HH.out.disk.lt _ hk; omega), hr⟩)).mono ?_
  rintro r w3 ⟨rfl, S3, hd3, hs3⟩
  have D3 := Lib.hid hd3
  have ST3 := Lib.hid hs3
  clear hd3 hs3 x0 x1 x2
  have H3 := Lib.hid (H2.out.step ST3.out D3.out)
  have O3 := Lib.hid (World.ownsRow.turn5 O2.out ST3.out.1 (fun k hk h2 => by have := HH.out.disk.lt _ h2; simp only [Value.ownBlock, Option.some.injEq] at hk; omega))
  by_cases hy : PX.2 = 0
  · rw [hy]
    go_wp2_with fail
    refine (HJ.out b1 c1 _ (own_low5 O3.out (Nat.zero_le _))).mono ?_
    rintro r w4 ⟨v4, rfl, o4, hb4⟩
    have O4 := Lib.hid o4
    have H4 := Lib.hid (H3.out.quiet (Turn.of_below (S := fun _ => False) hb4 (fun k h1 h2 => by omega)))
    obtain ⟨b4, c4, rfl, _, m4, _⟩ := own_form5 o4 (by decide)
    have T4 := Lib.hid (Turn.of_below (S := fun _ => False) hb4 (fun k h1 h2 => by omega))
    have x6 := H4.out.blk.cell 6
    have y6 := H4.out.blk.free 6
    simp only [List.getElem?_cons_zero, List.getElem?_cons_succ] at x6
    clear o4 hb4
    go_wp2_with (at_builtin; refine wpList_append_rw6 _ rfl _ _ rfl iR _ hiR hr1 hr2 hr3 rfl vR L rfl H4.out.row ⟨b4, 0, none⟩ c4 (rcells ⟨n, (n : Int) + (K : Int), T⟩) rfl rfl (own_news5 O4.out (Below.refl w4.heap.size w4) m4) (by simp [rcells, Value.oneCell']) (by omega) ?_
                 intro v5 w5 ho5 hg5 hv5
                 obtain ⟨g5, c5, rfl, _⟩ := own_form5 ho5 (by omega)
                 have O5 := Lib.hid ho5
                 have T5 := Lib.hid (grown_turn5 hg5)
                 have V5 := Lib.hid hv5
                 have HB5 := Lib.hid (H4.out.blk.turn T5.out (H4.out.row.blk H4.out.blk (by decide)))
                 have q6 := HB5.out.cell 6
                 have q4 := HB5.out.cell 4
                 have f6 := HB5.out.free 6
                 have f4 := HB5.out.free 4
                 simp only [List.getElem?_cons_zero, List.getElem?_cons_succ] at q6 q4
                 clear ho5 hg5 hv5 x6 y6)
    go_ret
    have HG := H4.out.grown (n' := n + K) O5.out T5.out V5.out
    rw [show ((n + K : Nat) : Int) = (n : Int) + (K : Int) from by omega] at HG
    exact ⟨by rw [hy]; rfl, S3, _, (((Stp.quiet T1.out.drew).trans (Rk.step ST3.out)).trans (Stp.quiet T4.out)).trans HG.2, .inr ⟨hy, HG.1⟩⟩
  · have hyy : (PX.2 != 0) = true := by simpa using hy
    go_wp2_with fail
    go_ret
    exact ⟨rfl, S3, vR, ((Stp.quiet T1.out.drew).trans (Rk.step ST3.out)), .inl ⟨hy, H3.out⟩⟩
end Go.Proofs.Ythhmodbggngelaa
