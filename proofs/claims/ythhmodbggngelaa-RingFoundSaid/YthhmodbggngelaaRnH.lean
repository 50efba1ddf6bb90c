/- Layer 6: look (begun). -/
import Derived.Test.YthhmodbggngelaaRnF
import Derived.Test.YthhmodbggngelaaSltJ
namespace Go.Proofs.Ythhmodbggngelaa
open Go.RowKit Go.Shelf
set_option linter.unusedVariables false
set_option maxRecDepth 100000
attribute [local go_sem] Oper.semAt_some

/-- What look has taken, the least epoch that still counts, the greatest of all. -/
structure Lk where
  l : List St
  least : Int
  most : Int
def Lk.step (q : Nat) (a : Lk) (x : Nat × St) : Lk :=
  if x.1 = q + a.l.length ∧ x.2.q = (x.1 : Int) ∧ a.least ≤ x.2.e then ⟨a.l ++ [x.2], x.2.e, max a.most x.2.e⟩ else ⟨a.l, a.least, max a.most x.2.e⟩
def lk5 (q : Nat) (e : Int) (l : List (Nat × St)) : Lk := l.foldl (Lk.step q) ⟨[], e, e⟩
theorem lk5_snoc (q : Nat) (e : Int) (l : List (Nat × St)) (x : Nat × St) : lk5 q e (l ++ [x]) = (lk5 q e l).step q x := by simp [lk5]
def prs (pre : List Sq) : List (Nat × St) := pre.map (fun x => (x.q, x.s))
theorem len_lk (q : Nat) (e : Int) (l : List (Nat × St)) : (lk5 q e l).l.length ≤ l.length := by
  induction l using snoc_ind with
  | h0 => exact Nat.le_refl _
  | h1 l x ih =>
    rw [lk5_snoc, List.length_append]
    unfold Lk.step
    split
    · simp only [List.length_append]; exact Nat.add_le_add_right ih _
    · exact Nat.le_trans ih (Nat.le_add_right _ _)
/-- What lies between two rounds: g is where look's boxes begin. -/
def LookI (w : World) (q : Nat) (e : Int) (g : Nat) (pre : List Sq) (W : World) : Prop :=
  ∃ v, Blk W (g + 2) 54 [v] ∧ W.ownsRow (g + 7) 81 5 v (lk5 q e (prs pre)).l.length ((lk5 q e (prs pre)).l.flatMap scells) ∧ Blk W (g + 3) 3 [.int .i64 (lk5 q e (prs pre)).least] ∧ Blk W (g + 4) 3 [.int .i64 (lk5 q e (prs pre)).most] ∧ Blk W (g + 1) 3 [.int .i64 q] ∧ g + 7 ≤ W.heap.size ∧ Turn (fun _ => False) w W
theorem lookI_own (w : World) (q : Nat) (e : Int) (g B : Nat) (hg : w.heap.size = g) (hB : g ≤ B) : OwnFrom B (LookI w q e g) := fun pre W W' row hs hgr hr => by
  obtain ⟨v, h1, h2, h3, h4, h5, h7, h6⟩ := hs
  have ht := grown_turn5 hgr
  have far : ∀ {b t : Nat} {cs : List Value}, Blk W b t cs → ¬ row = some b := fun {b t cs} hb er => by
    obtain ⟨_, o, ho, hc⟩ := hr b er
    unfold Blk at hb
    rw [hb] at ho
    injection ho with ho
    rw [← ho] at hc
    cases hc
  refine ⟨v, h1.turn ht (far h1), ?_, h3.turn ht (far h3), h4.turn ht (far h4), h5.turn ht (far h5), Nat.le_trans h7 ht.size, h6.trans_new ht (fun k hk er => by obtain ⟨h8, _⟩ := hr k er; omega)⟩
  refine World.ownsRow.turn5 h2 ht (fun k hk er => ?_)
  rcases h2.2 with ⟨rfl, _⟩ | ⟨b, c, cur, rfl, hB', hh, _⟩
  · simp [Value.ownBlock] at hk
  · simp only [Value.ownBlock, Option.some.injEq] at hk
    subst hk
    obtain ⟨_, o, ho, hc⟩ := hr b er
    rw [hh] at ho
    injection ho with ho
    rw [← ho] at hc
    cases hc
/-- The frame of a round: the Seq, and the slot's box at gb. -/
def lkAct (d : Nat) (f c q : Nat) (e : Int) (g g5 gb : Nat) (x : Sq) : Act :=
  { tmps := #[.agg #[.pointer (some ⟨d, 0, none⟩), .int .i64 f, .int .i64 c], .int .i64 q, .int .i64 e, .pointer (some ⟨g, 0, none⟩), .pointer (some ⟨g + 1, 0, none⟩), undef, .slice none 0 0, .int .i64 0, .pointer (some ⟨g + 1 + 1, 0, none⟩), .pointer (some ⟨g + 1 + 1 + 1, 0, none⟩), .pointer (some ⟨g + 1 + 1 + 1 + 1, 0, none⟩), .int .i64 x.q, .pointer (some ⟨gb, 0, none⟩), .int .i64 e, .int .i64 e, .agg #[.pointer (some ⟨d, 0, none⟩), .int .i64 f, .int .i64 c], .int .i64 q,
      .func (.func 52) #[] #[.pointer (some ⟨g5 + 1, 0, none⟩), .pointer (some ⟨g5, 0, none⟩)], .int .i64 x.q, .agg #[.int .i64 x.s.e, .int .i64 x.s.q, .bool x.s.f, .bool x.s.z, .string x.s.d], undef, undef, undef, undef, undef, undef, undef, undef, undef, undef, undef, undef, undef, undef, undef, undef, undef, undef, undef, undef, undef, undef, undef, undef, undef, undef, undef, undef, undef, undef], defers := [] }
def LkAx (d : Nat) (f c q : Nat) (e : Int) (g g5 : Nat) (x : Sq) (a : Act) (W : World) : Prop := ∃ gb, g + 7 ≤ gb ∧ a = lkAct d f c q e g g5 gb x ∧ Blk W gb 81 (scells x.s) ∧ ∃ v, Blk W (g + 2) 54 [v] ∧ ¬ v.ownBlock = some gb
theorem lkAx_own (d f c q : Nat) (e : Int) (g g5 B : Nat) (x : Sq) (a : Act) : OwnFrom B (fun (_ : Unit) W => LkAx d f c q e g g5 x a W) := fun _ W W' row hs hgr hr => by
  obtain ⟨gb, h1, h2, h3, v, h4, h5⟩ := hs
  have ht := grown_turn5 hgr
  have far : ∀ {b t : Nat} {cs : List Value}, Blk W b t cs → ¬ row = some b := fun {b t cs} hb er => by
    obtain ⟨_, o, ho, hc⟩ := hr b er
    unfold Blk at hb
    rw [hb] at ho
    injection ho with ho
    rw [← ho] at hc
    cases hc
  exact ⟨gb, h1, h2, h3.turn ht (far h3), v, h4.turn ht (far h4), h5⟩
theorem keeps_alloc (B : Nat) (W : World) (o : Obj) : KeepsFrom B W (W.alloc o) := ⟨by rw [World.size_alloc]; exact Nat.le_succ _, fun k o' _ hk _ => by
  rw [((Turn.refl (fun _ => False) W).alloc o).block k (Array.getElem?_eq_some_iff.1 hk).1 (fun h => h)]; exact hk⟩
theorem step_app_slot_ {P : Program} (w : World) {ops : Array Oper} {o : Oper} {a : Go.Act} {K : Go.Act → World → Prop} {Q : Exit → Go.Act → World → Prop} {E : Prop} (hgd : o.guard = none) (s x : Operand) (t : TypeId)
    (ho : o.op = .call { callee := .builtin .append, args := #[s, x], argTypes := #[t, t] })
    (base : Nat) (e : TypeId) (i : TypeInfo) (z : Value) (ht : P.underlying t = some (.slice e)) (hi : P.info? e = some i) (hz : i.zero = some z) (hsize : i.size = 5) (hby : i.bytes = 40) (hzs : z.cells.size = 5)
    (v : Value) (n : Nat) (xs : List Value) (hs : a.eval s = v) (hown : w.ownsRow base e 5 v n xs) (g c : Nat) (news : List Value) (hx : a.eval x = .slice (some ⟨g, 0, none⟩) 1 c) (hb : Blk w g e news) (hl : news.length = 5)
    (h1 : ∀ u ∈ news, u.oneCell' = true) (hn : n ≤ 1000000) (hbase : base ≤ w.heap.size)
    (h : ∀ v' w', w'.ownsRow base e 5 v' (n + 1) (xs ++ news) → w.grownBy w' v.ownBlock → K (a.put o.dst v') w') :
    if Region.wanted o (yielded ops a.tmps) = true then Oper.wp P o a w K Q else E := by
  have hw : Region.wanted o (yielded ops a.tmps) = true := by simp [Region.wanted, hgd]
  rw [if_pos hw]
  obtain ⟨v', w', hr, h2, h3, _⟩ := run_append_own (P := P) w base t o.type e i z 5 40 ht hi hz hsize hby hzs (by decide) v n xs hown ⟨g, 0, none⟩ 1 c news (by omega) (fun j u hu => by
    have := hb.cell j
    rw [Addr.add_mid, Nat.zero_add]
    exact this.trans hu) h1 (by unfold maxLen; omega) (by omega) hbase
  unfold Oper.wp execOp
  simp only [ho, resolve, invoke, builtin, Sem.run_bind, Sem.run_pure, Result.andThen_ok, List.map_toArray, List.map_cons, List.map_nil, hs, hx, hr]
  exact h v' w' h2 h3
/-- A round that takes its slot. -/
theorem look_take {S : Nat → Prop} {w W WM w10 : World} {q n cap A10c B0 : Nat} {e ls ms : Int} {R : List St} {s : St} {A A10 : Option Addr} {pre' : List Sq} (hdl : ∀ k, S k → k < w.heap.size) (hB : w.heap.size ≤ B0)
    (hst : lk5 q e (prs pre') = ⟨R ++ [s], s.e, max ms s.e⟩) (hn : R.length = n) (G2 : W.ownsRow (w.heap.size + 7) 81 5 (.slice A n cap) n (R.flatMap scells)) (g7 : w.heap.size + 7 ≤ W.heap.size) (G6 : Turn (fun _ => False) w W)
    (G1 : Blk W (w.heap.size + 2) 54 [.slice A n cap]) (G3 : Blk W (w.heap.size + 3) 3 [.int .i64 ls]) (G4 : Blk W (w.heap.size + 4) 3 [.int .i64 ms])
    (TM : Turn (fun k => k = w.heap.size + 4) W WM) (M4 : Blk WM (w.heap.size + 4) 3 [.int .i64 (max ms s.e)]) (M5 : Blk WM (w.heap.size + 1) 3 [.int .i64 q])
    (o10 : w10.ownsRow (w.heap.size + 7) 81 5 (.slice A10 (n + 1) A10c) (n + 1) (R.flatMap scells ++ scells s)) (TB : Turn (fun k => (Value.slice A n cap).ownBlock = some k) (WM.drew.alloc (.cells (scells s).toArray 81)) w10)
    (L1 : Blk w10 (w.heap.size + 2) 54 [.slice A n cap]) (L3 : Blk w10 (w.heap.size + 3) 3 [.int .i64 ls]) :
    KeepsFrom B0 W ((w10.setCell ⟨w.heap.size + 2, 0, none⟩ (.slice A10 (n + 1) A10c)).setCell ⟨w.heap.size + 3, 0, none⟩ (.int .i64 s.e)) ∧ KpR S (w.heap.size + 5) W ((w10.setCell ⟨w.heap.size + 2, 0, none⟩ (.slice A10 (n + 1) A10c)).setCell ⟨w.heap.size + 3, 0, none⟩ (.int .i64 s.e)) ∧
      LookI w q e w.heap.size pre' ((w10.setCell ⟨w.heap.size + 2, 0, none⟩ (.slice A10 (n + 1) A10c)).setCell ⟨w.heap.size + 3, 0, none⟩ (.int .i64 s.e)) := by
  have hbase := World.ownsRow.base5 G2
  have hbase2 := World.ownsRow.base5 o10
  have hfar : ∀ k, k < w.heap.size + 7 → ¬ (Value.slice A n cap).ownBlock = some k := fun k hk h => by have := hbase k h; omega
  have TS : Turn (fun k => k = w.heap.size + 2 ∨ k = w.heap.size + 3) w10 ((w10.setCell ⟨w.heap.size + 2, 0, none⟩ (.slice A10 (n + 1) A10c)).setCell ⟨w.heap.size + 3, 0, none⟩ (.int .i64 s.e)) := ((Turn.refl (fun k => k = w.heap.size + 2 ∨ k = w.heap.size + 3) w10).setCell (p := ⟨w.heap.size + 2, 0, none⟩) (.inl (.inl rfl)) _).setCell (p := ⟨w.heap.size + 3, 0, none⟩) (.inl (.inr rfl)) _
  have TT : Turn (fun k => k = w.heap.size + 4 ∨ (Value.slice A n cap).ownBlock = some k ∨ k = w.heap.size + 2 ∨ k = w.heap.size + 3) W ((w10.setCell ⟨w.heap.size + 2, 0, none⟩ (.slice A10 (n + 1) A10c)).setCell ⟨w.heap.size + 3, 0, none⟩ (.int .i64 s.e)) :=
    ((((TM.mono (fun k _ h => Or.inl h)).drew.alloc _).trans (TB.mono (fun k _ h => Or.inr (Or.inl h)))).trans (TS.mono (fun k _ h => Or.inr (Or.inr h))))
  refine ⟨⟨TT.size, fun k o hk ho hc => ?_⟩, TT.mono (fun k _ h h3 => ?_), ⟨.slice A10 (n + 1) A10c, ?_⟩⟩
  · rw [TT.block k (Array.getElem?_eq_some_iff.1 ho).1 (fun h => ?_)]
    · exact ho
    · have nocell : ∀ {b t : Nat} {cs : List Value}, Blk W b t cs → ¬ k = b := fun {b t cs} hb er => by
        subst er
        unfold Blk at hb
        rw [hb] at ho
        injection ho with ho
        rw [← ho] at hc
        cases hc
      rcases h with h | h | h | h
      · exact nocell G4 h
      · rcases G2.2 with ⟨e1, _⟩ | ⟨b, c, cur, e1, _, hb, _⟩
        · rw [e1] at h; simp [Value.ownBlock] at h
        · rw [e1] at h
          simp only [Value.ownBlock, Option.some.injEq] at h
          rw [h] at hb
          rw [hb] at ho
          injection ho with ho
          rw [← ho] at hc
          cases hc
      · exact nocell G1 h
      · exact nocell G3 h
  · have h4 : w.heap.size ≤ k ∧ k ≠ w.heap.size + 5 ∧ k ≠ w.heap.size + 6 := by
      rcases h with h | h | h | h
      · omega
      · have := hbase k h; omega
      · omega
      · omega
    rcases h3 with h3 | h3 | h3
    · have := hdl _ h3; omega
    · omega
    · omega
  · rw [hst]
    simp only
    rw [List.length_append, hn, List.flatMap_append, List.length_singleton]
    have hfs : ([s] : List St).flatMap scells = scells s := by simp [List.flatMap_cons]
    rw [hfs]
    refine ⟨?_, World.ownsRow.turn5 o10 TS (fun k hk h => by have := hbase2 k hk; omega), ?_, ?_, ?_, Nat.le_trans g7 TT.size, G6.trans_new TT (fun k hk h => by
      rcases h with h | h | h | h
      · omega
      · have := hbase k h; omega
      · omega
      · omega)⟩
    · exact (L1.put 0 _).far (p := ⟨w.heap.size + 3, 0, none⟩) (by simp) _
    · exact (L3.far (p := ⟨w.heap.size + 2, 0, none⟩) (by simp) _).put 0 _
    · exact ((M4.drew.alloc _).turn TB (hfar _ (by omega))).turn TS (by omega)
    · exact ((M5.drew.alloc _).turn TB (hfar _ (by omega))).turn TS (by omega)
set_option maxHeartbeats 4000000 in
theorem look_any (S : Nat → Prop) (d : Nat) (D : Dsk) (hdead : D.dead = false) (f c q : Nat) (hf : f + c ≤ D.kept.length) (hc0 : 0 < c) (hc : c ≤ 16384) (hq : q ≤ 1152921504606846976) (e : Int) (w : World) (hd : Dq S w d D) :
    Calls Try.prog 23 #[.agg #[.pointer (some ⟨d, 0, none⟩), .int .i64 f, .int .i64 c], .int .i64 q, .int .i64 e] w fun r w' => ∃ v, r = .returned (.tuple #[v, .int .i64 (lk5 q e (slots5 D f c q c)).most]) ∧ w'.ownsRow w.heap.size 81 5 v (lk5 q e (slots5 D f c q c)).l.length ((lk5 q e (slots5 D f c q c)).l.flatMap scells) ∧ Turn (fun _ => False) w w' := by
  refine (callsIn_wide (n := 3)).1 ?_
  refine callsIn_of_wp_marks Try.func23 rfl trivial ?_ rfl
  simp only [Try.ntmps23, List.size_toArray, List.length_cons, List.length_nil, Nat.reduceAdd, Nat.reduceSub, Array.replicate_succ, Array.replicate_zero, List.push_toArray, List.append_toArray, List.nil_append, List.cons_append]
  gi_wp2_with fail
  have F5 : Hid (Turn (fun _ => False) w (((((w.alloc (.cells #[.pointer (some ⟨d, 0, none⟩), .int .i64 f, .int .i64 c] 43)).alloc (.cells #[.int .i64 q] 3)).alloc (.cells #[.slice none 0 0] 54)).alloc (.cells #[.int .i64 e] 3)).alloc (.cells #[.int .i64 e] 3)) ∧ (((((w.alloc (.cells #[.pointer (some ⟨d, 0, none⟩), .int .i64 f, .int .i64 c] 43)).alloc (.cells #[.int .i64 q] 3)).alloc (.cells #[.slice none 0 0] 54)).alloc (.cells #[.int .i64 e] 3)).alloc (.cells #[.int .i64 e] 3)).heap.size = w.heap.size + 5 ∧ Blk (((((w.alloc (.cells #[.pointer (some ⟨d, 0, none⟩), .int .i64 f, .int .i64 c] 43)).alloc (.cells #[.int .i64 q] 3)).alloc (.cells #[.slice none 0 0] 54)).alloc (.cells #[.int .i64 e] 3)).alloc (.cells #[.int .i64 e] 3)) (w.heap.size + 1) 3 [.int .i64 q] ∧ Blk (((((w.alloc (.cells #[.pointer (some ⟨d, 0, none⟩), .int .i64 f, .int .i64 c] 43)).alloc (.cells #[.int .i64 q] 3)).alloc (.cells #[.slice none 0 0] 54)).alloc (.cells #[.int .i64 e] 3)).alloc (.cells #[.int .i64 e] 3)) (w.heap.size + 2) 54 [.slice none 0 0] ∧ Blk (((((w.alloc (.cells #[.pointer (some ⟨d, 0, none⟩), .int .i64 f, .int .i64 c] 43)).alloc (.cells #[.int .i64 q] 3)).alloc (.cells #[.slice none 0 0] 54)).alloc (.cells #[.int .i64 e] 3)).alloc (.cells #[.int .i64 e] 3)) (w.heap.size + 3) 3 [.int .i64 e] ∧ Blk (((((w.alloc (.cells #[.pointer (some ⟨d, 0, none⟩), .int .i64 f, .int .i64 c] 43)).alloc (.cells #[.int .i64 q] 3)).alloc (.cells #[.slice none 0 0] 54)).alloc (.cells #[.int .i64 e] 3)).alloc (.cells #[.int .i64 e] 3)) (w.heap.size + 4) 3 [.int .i64 e]) := Lib.hid ⟨(((((Turn.refl _ w).alloc _).alloc _).alloc _).alloc _).alloc _, by simp, (((Blk.new_ _ 3 [.int .i64 q] (k := w.heap.size + 1) (by simp)).alloc _).alloc _).alloc _, ((Blk.new_ _ 54 [.slice none 0 0] (k := w.heap.size + 2) (by simp)).alloc _).alloc _, (Blk.new_ _ 3 [.int .i64 e] (k := w.heap.size + 3) (by simp)).alloc _, Blk.new_ _ 3 [.int .i64 e] (k := w.heap.size + 4) (by simp)⟩
  generalize (((((w.alloc (.cells #[.pointer (some ⟨d, 0, none⟩), .int .i64 f, .int .i64 c] 43)).alloc (.cells #[.int .i64 q] 3)).alloc (.cells #[.slice none 0 0] 54)).alloc (.cells #[.int .i64 e] 3)).alloc (.cells #[.int .i64 e] 3)) = W5 at *
  refine ⟨trivial, ?_⟩
  gi_at_call 38
  refine (callsIn_wide.2 (slots_any _ rfl f c q W5)).mono ?_
  rintro e1 w1 ⟨rfl, rfl⟩
  gi_wp2_with fail
  have F7 : Hid (Turn (fun _ => False) W5 ((W5.alloc (.cells #[.pointer (some ⟨d, 0, none⟩), .int .i64 f, .int .i64 c] 43)).alloc (.cells #[.int .i64 q] 3)) ∧ ((W5.alloc (.cells #[.pointer (some ⟨d, 0, none⟩), .int .i64 f, .int .i64 c] 43)).alloc (.cells #[.int .i64 q] 3)).heap.size = W5.heap.size + 2 ∧ Blk ((W5.alloc (.cells #[.pointer (some ⟨d, 0, none⟩), .int .i64 f, .int .i64 c] 43)).alloc (.cells #[.int .i64 q] 3)) W5.heap.size 43 [.pointer (some ⟨d, 0, none⟩), .int .i64 f, .int .i64 c] ∧ Blk ((W5.alloc (.cells #[.pointer (some ⟨d, 0, none⟩), .int .i64 f, .int .i64 c] 43)).alloc (.cells #[.int .i64 q] 3)) (W5.heap.size + 1) 3 [.int .i64 q]) := Lib.hid ⟨((Turn.refl _ W5).alloc _).alloc _, by simp, (Blk.new W5 43 [.pointer (some ⟨d, 0, none⟩), .int .i64 f, .int .i64 c]).alloc _, Blk.new_ _ 3 [.int .i64 q] (k := W5.heap.size + 1) (by simp)⟩
  generalize ((W5.alloc (.cells #[.pointer (some ⟨d, 0, none⟩), .int .i64 f, .int .i64 c] 43)).alloc (.cells #[.int .i64 q] 3)) = W0 at *
  have hb5 : W5.heap.size = w.heap.size + 5 := F5.out.2.1
  have hb7 : W0.heap.size = w.heap.size + 7 := by rw [F7.out.2.1, hb5]
  have D0 := Lib.hid ((hd.still F5.out.1).still F7.out.1)
  have hdl := hd.lt
  have I0 : Hid (LookI w q e w.heap.size [] W0) := Lib.hid ⟨.slice none 0 0, F5.out.2.2.2.1.turn F7.out.1 (fun h => h), World.ownsRow_nil _ _ _ _, F5.out.2.2.2.2.1.turn F7.out.1 (fun h => h), F5.out.2.2.2.2.2.turn F7.out.1 (fun h => h), F5.out.2.2.1.turn F7.out.1 (fun h => h), by omega, F5.out.1.trans F7.out.1⟩
  clear hd
  refine wpIn_rangeFunc_ownH (F := Fence.wide) (n := 3) rfl (by decide) (gf := 52) (lb := #[.pointer (some ⟨W5.heap.size + 1, 0, none⟩), .pointer (some ⟨W5.heap.size, 0, none⟩)]) rfl trivial (enters_of Try.func52 (by kernel_rfl) rfl)
    (slots_stops S d D hdead f c q hf hc0 hc hq W5.heap.size W0 D0.out F7.out.2.2.1 F7.out.2.2.2 (fun h => by have := hdl _ h; omega)) (fun h1 h2 => Turn.trans h1 h2) (fun W l o o' hl ho hc1 hc2 => (put_turn5 W l o').mono (fun k _ hk h3 => by
      subst hk
      rcases h3 with h3 | h3 | h3
      · have := hdl _ h3; omega
      · omega
      · omega)) (Below.refl _ _) (fun _ => rfl)
    (fun ps => LookI w q e w.heap.size ps) (fun _ _ _ => False) (lookI_own w q e w.heap.size _ rfl (by omega)) (fun _ _ _ _ _ hs _ _ => hs) I0.out (LkAx d f c q e w.heap.size (w.heap.size + 5)) (lkAx_own d f c q e w.heap.size (w.heap.size + 5) _) ?assign ?body ?done ?stop
  case assign =>
    intro l pre x W K hI hK
    have hgb : w.heap.size + 7 ≤ W.heap.size := by
      obtain ⟨v, g1, g2, g3, g4, g5, g7, g6⟩ := hI
      exact g7
    gi_wp2
    obtain ⟨v, g1, g2, hrest⟩ := id hI
    exact hK _ _ (keeps_alloc _ W _) ((Turn.refl _ W).alloc _) (OwnFrom.alloc (lookI_own w q e w.heap.size w.heap.size rfl (Nat.le_refl _)) _ hI) ⟨W.heap.size, hgb, rfl, Blk.new W 81 (scells x.s), v, g1.alloc _, fun h2 => by have := own_lt5 g2 _ h2; omega⟩
  case stop =>
    intro D2 cc pre W _ _ h
    exact h.elim
  case body =>
    intro l pre px a' W hl0 hlr hI hAx hlen
    obtain ⟨gb, hgb, rfl, gs, v0, gv0, hgv⟩ := hAx
    obtain ⟨v, g1, g2, g3, g4, g5, g7, g6⟩ := hI
    obtain ⟨i0, hi0, hy1, hy2, hy3⟩ := info_parts Try.infoSlot
    have hln : (lk5 q e (prs pre)).l.length ≤ 16384 := by
      have h1 := len_lk q e (prs pre)
      have h2 : (prs pre).length = pre.length := by simp [prs]
      omega
    have HST : Hid (lk5 q e (prs (pre ++ [px])) = (lk5 q e (prs pre)).step q (px.q, px.s)) := Lib.hid (by rw [← lk5_snoc]; simp [prs])
    obtain ⟨A, cap, rfl⟩ : ∃ A cap, v = .slice A (lk5 q e (prs pre)).l.length cap := by
      rcases g2.2 with ⟨e1, e2⟩ | ⟨b, c, cur, e1, _⟩
      · exact ⟨_, _, by rw [e1, e2]⟩
      · exact ⟨_, _, e1⟩
    obtain rfl : v0 = .slice A (lk5 q e (prs pre)).l.length cap := by have := (gv0.same g1).2; simpa using this
    clear gv0
    obtain ⟨⟨R, ls, ms⟩, hlk⟩ : ∃ a : Lk, lk5 q e (prs pre) = a := ⟨_, rfl⟩
    rw [hlk] at g1 g2 g3 g4 hln HST hgv
    simp only at g1 g2 g3 g4 hln hgv
    clear hlk hlen
    obtain ⟨xq, s, hxr⟩ := px
    simp only at gs HST
    have hr5 := r5_yes hxr
    obtain ⟨n, hn⟩ : ∃ n, R.length = n := ⟨_, rfl⟩
    have HN := Lib.hid hn
    rw [hn] at g1 g2 hln hgv
    have z1 := wrap_of ((q : Int) + (n : Int)) (by omega) (by omega)
    have G2 := Lib.hid g2
    have G6 := Lib.hid g6
    have G1 := Lib.hid g1
    have G3 := Lib.hid g3
    have G4 := Lib.hid g4
    have G5 := Lib.hid g5
    have x1 := g5.cell 0
    have x2 := g1.cell 0
    have x3 := g3.cell 0
    have x4 := g4.cell 0
    have f4 := g4.free 0
    have y0 := gs.cell 0
    have y1 := gs.cell 1
    have y2 := gs.cell 2
    have y3 := gs.cell 3
    have y4 := gs.cell 4
    simp only [scells, List.getElem?_cons_zero, List.getElem?_cons_succ] at x1 x2 x3 x4 y0 y1 y2 y3 y4
    have hgne : gb ≠ w.heap.size + 1 + 1 + 1 + 1 := by omega
    have HPUT := Lib.hid (g4.put 0 (.int .i64 (max ms s.e)))
    clear g1 g2 g3 g4 g5 g6 hn
    unfold lkAct
    by_cases hcond : xq = q + R.length ∧ s.q = (xq : Int) ∧ ls ≤ s.e
    · have HST2 : Hid (lk5 q e (prs (pre ++ [⟨xq, s, hxr⟩])) = ⟨R ++ [s], s.e, max ms s.e⟩) := Lib.hid (by rw [HST.out]; unfold Lk.step; rw [if_pos hcond])
      have hmx : (ms < s.e ∧ max ms s.e = s.e) ∨ (s.e ≤ ms ∧ max ms s.e = ms) := by omega
      have hc1 : ((xq : Int) == (q : Int) + (n : Int)) = true := by rw [← HN.out, beq_iff_eq]; omega
      have hc2 : (s.q == (xq : Int)) = true := by rw [beq_iff_eq]; exact hcond.2.1
      have hc3 : decide (ls ≤ s.e) = true := decide_eq_true hcond.2.2
      clear hcond HST
      have hmm := hmx
      obtain ⟨WM, hWM⟩ : ∃ WM, W.setCell ⟨w.heap.size + 4, 0, none⟩ (.int .i64 (max ms s.e)) = WM := ⟨_, rfl⟩
      rw [hWM] at HPUT
      have TM : Hid (Turn (fun k => k = w.heap.size + 4) W WM) := Lib.hid (hWM ▸ (Turn.refl (fun k => k = w.heap.size + 4) W).setCell (p := ⟨w.heap.size + 4, 0, none⟩) (.inl rfl) _)
      have M1 := Lib.hid (G1.out.turn TM.out (by omega))
      have M2 := Lib.hid (World.ownsRow.turn5 G2.out TM.out (fun k hk h => by have := World.ownsRow.base5 G2.out k hk; omega))
      have M3 := Lib.hid (G3.out.turn TM.out (by omega))
      have M5 := Lib.hid (G5.out.turn TM.out (by omega))
      have MS := Lib.hid (gs.turn TM.out (by omega))
      have hszM := TM.out.size
      have hWM2 : ∀ mx, mx = max ms s.e → W.setCell ⟨w.heap.size + 1 + 1 + 1 + 1, 0, none⟩ (.int .i64 mx) = WM := fun mx h => by rw [h]; exact hWM
      have HWM := Lib.hid hWM2
      clear hWM hWM2
      rcases hmm with ⟨hm1, hm2⟩ | ⟨hm1, hm2⟩
      all_goals gi_wp2_with fail
      all_goals rw [HWM.out _ hm2.symm]
      all_goals clear hm2
      all_goals refine region_round l _ (by kernel_rfl) (by rintro ⟨a, w, h⟩; exact h) (by kernel_rfl) (S := fun X => X.cell? ⟨gb, 0, none⟩ = some (.int .i64 s.e) ∧ X.cell? ⟨gb, 1, none⟩ = some (.int .i64 s.q) ∧ X.cell? ⟨gb, 2, none⟩ = some (.bool s.f) ∧ X.cell? ⟨gb, 3, none⟩ = some (.bool s.z) ∧ X.cell? ⟨gb, 4, none⟩ = some (.string s.d)) (fun hHeld => ?_) ⟨MS.out.drew.cell 0, MS.out.drew.cell 1, MS.out.drew.cell 2, MS.out.drew.cell 3, MS.out.drew.cell 4⟩
      all_goals clear x1 x2 x3 x4 f4
      all_goals (
      -- region 8
      refine wpAnyH_take (i := 1) (v := ?_) rfl (by kernel_rfl) (by kernel_rfl) (by kernel_rfl) (fun _ _ _ h => h) (Or.inl ⟨by rfl, ?_⟩) (by assumption) ?_
      rotate_left 1
      · intro w' hSw
        obtain ⟨p0, p1, p2, p3, p4⟩ := hSw
        go_simp
        all_goals first | with_reducible rfl | (rw [if_neg (by omega)]; done) | (rw [if_pos (by omega)]; done)
      try simp only [List.getElem_toArray, List.getElem_cons_zero, List.getElem_cons_succ, Act.put, List.setIfInBounds_toArray, List.set_cons_zero, List.set_cons_succ]
      refine wpAnyH_take (i := 4) (v := ?_) rfl (by kernel_rfl) (by kernel_rfl) (by kernel_rfl) (fun _ _ _ h => h) (Or.inl ⟨by rfl, ?_⟩) (by assumption) ?_
      rotate_left 1
      · intro w' hSw
        obtain ⟨p0, p1, p2, p3, p4⟩ := hSw
        go_simp
        all_goals first | with_reducible rfl | (rw [if_neg (by omega)]; done) | (rw [if_pos (by omega)]; done)
      try simp only [List.getElem_toArray, List.getElem_cons_zero, List.getElem_cons_succ, Act.put, List.setIfInBounds_toArray, List.set_cons_zero, List.set_cons_succ]
      refine wpAnyH_take (i := 5) (v := ?_) rfl (by kernel_rfl) (by kernel_rfl) (by kernel_rfl) (fun _ _ _ h => h) (Or.inl ⟨by rfl, ?_⟩) (by assumption) ?_
      rotate_left 1
      · intro w' hSw
        obtain ⟨p0, p1, p2, p3, p4⟩ := hSw
        go_simp
        all_goals first | with_reducible rfl | (rw [if_neg (by omega)]; done) | (rw [if_pos (by omega)]; done)
      try simp only [List.getElem_toArray, List.getElem_cons_zero, List.getElem_cons_succ, Act.put, List.setIfInBounds_toArray, List.set_cons_zero, List.set_cons_succ]
      refine wpAnyH_ready (rs := [0, 2]) (by kernel_rfl) (by simp) ?_
      refine AllReadyH.cons rfl (fun K hK => ?_) (AllReadyH.cons rfl (fun K hK => ?_) AllReadyH.nil)
      · have xl := M1.out.drew.cell 0
        simp only [List.getElem?_cons_zero] at xl
        go_simp
        refine hK.out _ _ hHeld (fun hHeld => ?_)
        clear hK K xl
        try simp only [List.getElem_toArray, List.getElem_cons_zero, List.getElem_cons_succ, Act.put, List.setIfInBounds_toArray, List.set_cons_zero, List.set_cons_succ]
        refine wpAnyH_ready (rs := [2]) (by kernel_rfl) (by simp) ?_
        refine AllReadyH.cons rfl (fun K hK => ?_) AllReadyH.nil
        go_simp
        have MA := Lib.hid ((MS.out.alloc (.cells #[.int .i64 s.e, .int .i64 s.q, .bool s.f, .bool s.z, .string s.d] 81)).drew)
        refine hK.out _ _ ⟨MA.out.cell 0, MA.out.cell 1, MA.out.cell 2, MA.out.cell 3, MA.out.cell 4⟩ (fun hHeld => ?_)
        clear hK K
        try simp only [List.getElem_toArray, List.getElem_cons_zero, List.getElem_cons_succ, Act.put, List.setIfInBounds_toArray, List.set_cons_zero, List.set_cons_succ]
        have NB := Lib.hid ((Blk.new WM 81 [.int .i64 s.e, .int .i64 s.q, .bool s.f, .bool s.z, .string s.d]).drew)
        refine wpAnyH_ready (rs := [3]) (by kernel_rfl) (by simp) ?_
        refine AllReadyH.cons rfl (fun K hK => ?_) AllReadyH.nil
        refine step_app_slot_ _ rfl _ _ 54 rfl (w.heap.size + 7) 81 i0 _ Try.underlying54 hi0 hy1 hy2 hy3 rfl (.slice A n cap) n _ rfl (World.ownsRow.drew (M2.out.alloc _)) WM.heap.size 1 [.int .i64 s.e, .int .i64 s.q, .bool s.f, .bool s.z, .string s.d] rfl NB.out rfl (by simp [Value.oneCell']) (by omega) (by show _ ≤ (WM.alloc _).heap.size; rw [World.size_alloc]; omega) ?_
        intro v10 w10 o10 gb10
        obtain ⟨A10, c10, rfl⟩ : ∃ A10 c10, v10 = .slice A10 (n + 1) c10 := by
          rcases o10.2 with ⟨_, e2⟩ | ⟨b, c, cur, e1, _⟩
          · omega
          · exact ⟨_, _, e1⟩
        have O10 := Lib.hid o10
        have TB := Lib.hid (grown_turn5 gb10)
        have far := Lib.hid (fun k (hk : k < w.heap.size + 7) (h : (Value.slice A n cap).ownBlock = some k) => (by have := World.ownsRow.base5 M2.out k h; omega : False))
        have L1 := Lib.hid (((M1.out.alloc (.cells #[.int .i64 s.e, .int .i64 s.q, .bool s.f, .bool s.z, .string s.d] 81)).drew).turn TB.out (far.out _ (by omega)))
        have L3 := Lib.hid (((M3.out.alloc (.cells #[.int .i64 s.e, .int .i64 s.q, .bool s.f, .bool s.z, .string s.d] 81)).drew).turn TB.out (far.out _ (by omega)))
        have LS := Lib.hid (((MS.out.alloc (.cells #[.int .i64 s.e, .int .i64 s.q, .bool s.f, .bool s.z, .string s.d] 81)).drew).turn TB.out (fun h => hgv h))
        clear o10 gb10
        have k1 := L1.out.cell 0
        have k2 := L1.out.free 0
        simp only [List.getElem?_cons_zero] at k1
        refine hK.out _ _ ⟨LS.out.cell 0, LS.out.cell 1, LS.out.cell 2, LS.out.cell 3, LS.out.cell 4⟩ (fun hHeld => ?_)
        clear hK K
        try simp only [List.getElem_toArray, List.getElem_cons_zero, List.getElem_cons_succ, Act.put, List.setIfInBounds_toArray, List.set_cons_zero, List.set_cons_succ]
        refine wpAnyH_ready (rs := [6]) (by kernel_rfl) (by simp) ?_
        refine AllReadyH.cons rfl (fun K hK => ?_) AllReadyH.nil
        go_simp
        have TS1 := Lib.hid ((Turn.refl (fun k => k = w.heap.size + 2) w10).setCell (p := ⟨w.heap.size + 2, 0, none⟩) (.inl rfl) (.slice A10 (n + 1) c10))
        have LS2 := Lib.hid (LS.out.turn TS1.out (by omega))
        have L32 := Lib.hid (L3.out.turn TS1.out (by omega))
        have k3 := L32.out.cell 0
        have k4 := L32.out.free 0
        simp only [List.getElem?_cons_zero] at k3
        refine hK.out _ _ ⟨LS2.out.cell 0, LS2.out.cell 1, LS2.out.cell 2, LS2.out.cell 3, LS2.out.cell 4⟩ (fun hHeld => ?_)
        clear hK K
        try simp only [List.getElem_toArray, List.getElem_cons_zero, List.getElem_cons_succ, Act.put, List.setIfInBounds_toArray, List.set_cons_zero, List.set_cons_succ]
        refine wpAnyH_ready (rs := [7]) (by kernel_rfl) (by simp) ?_
        refine AllReadyH.cons rfl (fun K hK => ?_) AllReadyH.nil
        go_simp
        have TS2 := Lib.hid ((Turn.refl (fun k => k = w.heap.size + 3) (w10.setCell ⟨w.heap.size + 2, 0, none⟩ (.slice A10 (n + 1) c10))).setCell (p := ⟨w.heap.size + 3, 0, none⟩) (.inl rfl) (.int .i64 s.e))
        have LS4 := Lib.hid (LS2.out.turn TS2.out (by omega))
        refine hK.out _ _ ⟨LS4.out.cell 0, LS4.out.cell 1, LS4.out.cell 2, LS4.out.cell 3, LS4.out.cell 4⟩ (fun hHeld => ?_)
        clear hK K
        try simp only [List.getElem_toArray, List.getElem_cons_zero, List.getElem_cons_succ, Act.put, List.setIfInBounds_toArray, List.set_cons_zero, List.set_cons_succ]
        refine wpAnyH_done (by kernel_rfl) ?_ _
        have HF := look_take (B0 := W0.heap.size) hdl (by omega) HST2.out HN.out G2.out g7 G6.out G1.out G3.out G4.out TM.out HPUT.out M5.out O10.out TB.out L1.out L3.out
        rw [show w.heap.size + 5 = W5.heap.size from hb5.symm] at HF
        exact HF
      · go_simp
        have MA := Lib.hid ((MS.out.alloc (.cells #[.int .i64 s.e, .int .i64 s.q, .bool s.f, .bool s.z, .string s.d] 81)).drew)
        refine hK.out _ _ ⟨MA.out.cell 0, MA.out.cell 1, MA.out.cell 2, MA.out.cell 3, MA.out.cell 4⟩ (fun hHeld => ?_)
        clear hK K
        try simp only [List.getElem_toArray, List.getElem_cons_zero, List.getElem_cons_succ, Act.put, List.setIfInBounds_toArray, List.set_cons_zero, List.set_cons_succ]
        refine wpAnyH_ready (rs := [0]) (by kernel_rfl) (by simp) ?_
        refine AllReadyH.cons rfl (fun K hK => ?_) AllReadyH.nil
        have xl := ((M1.out.alloc (.cells #[.int .i64 s.e, .int .i64 s.q, .bool s.f, .bool s.z, .string s.d] 81)).drew).cell 0
        simp only [List.getElem?_cons_zero] at xl
        go_simp
        refine hK.out _ _ hHeld (fun hHeld => ?_)
        clear hK K xl
        try simp only [List.getElem_toArray, List.getElem_cons_zero, List.getElem_cons_succ, Act.put, List.setIfInBounds_toArray, List.set_cons_zero, List.set_cons_succ]
        have NB := Lib.hid ((Blk.new WM 81 [.int .i64 s.e, .int .i64 s.q, .bool s.f, .bool s.z, .string s.d]).drew)
        refine wpAnyH_ready (rs := [3]) (by kernel_rfl) (by simp) ?_
        refine AllReadyH.cons rfl (fun K hK => ?_) AllReadyH.nil
        refine step_app_slot_ _ rfl _ _ 54 rfl (w.heap.size + 7) 81 i0 _ Try.underlying54 hi0 hy1 hy2 hy3 rfl (.slice A n cap) n _ rfl (World.ownsRow.drew (M2.out.alloc _)) WM.heap.size 1 [.int .i64 s.e, .int .i64 s.q, .bool s.f, .bool s.z, .string s.d] rfl NB.out rfl (by simp [Value.oneCell']) (by omega) (by show _ ≤ (WM.alloc _).heap.size; rw [World.size_alloc]; omega) ?_
        intro v10 w10 o10 gb10
        obtain ⟨A10, c10, rfl⟩ : ∃ A10 c10, v10 = .slice A10 (n + 1) c10 := by
          rcases o10.2 with ⟨_, e2⟩ | ⟨b, c, cur, e1, _⟩
          · omega
          · exact ⟨_, _, e1⟩
        have O10 := Lib.hid o10
        have TB := Lib.hid (grown_turn5 gb10)
        have far := Lib.hid (fun k (hk : k < w.heap.size + 7) (h : (Value.slice A n cap).ownBlock = some k) => (by have := World.ownsRow.base5 M2.out k h; omega : False))
        have L1 := Lib.hid (((M1.out.alloc (.cells #[.int .i64 s.e, .int .i64 s.q, .bool s.f, .bool s.z, .string s.d] 81)).drew).turn TB.out (far.out _ (by omega)))
        have L3 := Lib.hid (((M3.out.alloc (.cells #[.int .i64 s.e, .int .i64 s.q, .bool s.f, .bool s.z, .string s.d] 81)).drew).turn TB.out (far.out _ (by omega)))
        have LS := Lib.hid (((MS.out.alloc (.cells #[.int .i64 s.e, .int .i64 s.q, .bool s.f, .bool s.z, .string s.d] 81)).drew).turn TB.out (fun h => hgv h))
        clear o10 gb10
        have k1 := L1.out.cell 0
        have k2 := L1.out.free 0
        simp only [List.getElem?_cons_zero] at k1
        refine hK.out _ _ ⟨LS.out.cell 0, LS.out.cell 1, LS.out.cell 2, LS.out.cell 3, LS.out.cell 4⟩ (fun hHeld => ?_)
        clear hK K
        try simp only [List.getElem_toArray, List.getElem_cons_zero, List.getElem_cons_succ, Act.put, List.setIfInBounds_toArray, List.set_cons_zero, List.set_cons_succ]
        refine wpAnyH_ready (rs := [6]) (by kernel_rfl) (by simp) ?_
        refine AllReadyH.cons rfl (fun K hK => ?_) AllReadyH.nil
        go_simp
        have TS1 := Lib.hid ((Turn.refl (fun k => k = w.heap.size + 2) w10).setCell (p := ⟨w.heap.size + 2, 0, none⟩) (.inl rfl) (.slice A10 (n + 1) c10))
        have LS2 := Lib.hid (LS.out.turn TS1.out (by omega))
        have L32 := Lib.hid (L3.out.turn TS1.out (by omega))
        have k3 := L32.out.cell 0
        have k4 := L32.out.free 0
        simp only [List.getElem?_cons_zero] at k3
        refine hK.out _ _ ⟨LS2.out.cell 0, LS2.out.cell 1, LS2.out.cell 2, LS2.out.cell 3, LS2.out.cell 4⟩ (fun hHeld => ?_)
        clear hK K
        try simp only [List.getElem_toArray, List.getElem_cons_zero, List.getElem_cons_succ, Act.put, List.setIfInBounds_toArray, List.set_cons_zero, List.set_cons_succ]
        refine wpAnyH_ready (rs := [7]) (by kernel_rfl) (by simp) ?_
        refine AllReadyH.cons rfl (fun K hK => ?_) AllReadyH.nil
        go_simp
        have TS2 := Lib.hid ((Turn.refl (fun k => k = w.heap.size + 3) (w10.setCell ⟨w.heap.size + 2, 0, none⟩ (.slice A10 (n + 1) c10))).setCell (p := ⟨w.heap.size + 3, 0, none⟩) (.inl rfl) (.int .i64 s.e))
        have LS4 := Lib.hid (LS2.out.turn TS2.out (by omega))
        refine hK.out _ _ ⟨LS4.out.cell 0, LS4.out.cell 1, LS4.out.cell 2, LS4.out.cell 3, LS4.out.cell 4⟩ (fun hHeld => ?_)
        clear hK K
        try simp only [List.getElem_toArray, List.getElem_cons_zero, List.getElem_cons_succ, Act.put, List.setIfInBounds_toArray, List.set_cons_zero, List.set_cons_succ]
        refine wpAnyH_done (by kernel_rfl) ?_ _
        have HF := look_take (B0 := W0.heap.size) hdl (by omega) HST2.out HN.out G2.out g7 G6.out G1.out G3.out G4.out TM.out HPUT.out M5.out O10.out TB.out L1.out L3.out
        rw [show w.heap.size + 5 = W5.heap.size from hb5.symm] at HF
        exact HF
      -- region 8 end
      )
    · have HST2 : Hid (lk5 q e (prs (pre ++ [⟨xq, s, hxr⟩])) = ⟨R, ls, max ms s.e⟩) := Lib.hid (by rw [HST.out]; unfold Lk.step; rw [if_neg hcond])
      have HI : Hid (LookI w q e w.heap.size (pre ++ [⟨xq, s, hxr⟩]) (W.setCell ⟨w.heap.size + 4, 0, none⟩ (.int .i64 (max ms s.e)))) := Lib.hid (by
        have tt : Turn (fun k => k = w.heap.size + 4) W (W.setCell ⟨w.heap.size + 4, 0, none⟩ (.int .i64 (max ms s.e))) := (Turn.refl (fun k => k = w.heap.size + 4) W).setCell (p := ⟨w.heap.size + 4, 0, none⟩) (.inl rfl) _
        refine ⟨.slice A n cap, ?_⟩
        rw [HST2.out]
        simp only
        rw [HN.out]
        refine ⟨G1.out.turn tt (by omega), World.ownsRow.turn5 G2.out tt (fun k hk h => by have := World.ownsRow.base5 G2.out k hk; omega), G3.out.turn tt (by omega), HPUT.out, G5.out.turn tt (by omega), Nat.le_trans g7 tt.size, G6.out.trans_new tt (fun k hk h => by omega)⟩)
      have HK : Hid (KeepsFrom W0.heap.size W (W.setCell ⟨w.heap.size + 4, 0, none⟩ (.int .i64 (max ms s.e))) ∧ KpR S W5.heap.size W (W.setCell ⟨w.heap.size + 4, 0, none⟩ (.int .i64 (max ms s.e)))) := Lib.hid (by
        have tt : Turn (fun k => k = w.heap.size + 4) W (W.setCell ⟨w.heap.size + 4, 0, none⟩ (.int .i64 (max ms s.e))) := (Turn.refl (fun k => k = w.heap.size + 4) W).setCell (p := ⟨w.heap.size + 4, 0, none⟩) (.inl rfl) _
        refine ⟨⟨tt.size, fun k o hk hko _ => ?_⟩, tt.mono (fun k _ hk h3 => ?_)⟩
        · rw [tt.block k (Array.getElem?_eq_some_iff.1 hko).1 (by omega)]; exact hko
        · subst hk
          rcases h3 with h3 | h3 | h3
          · have := hdl _ h3; omega
          · omega
          · omega)
      have hmx : (ms < s.e ∧ max ms s.e = s.e) ∨ (s.e ≤ ms ∧ max ms s.e = ms) := by omega
      have hcs : ((xq : Int) == (q : Int) + (n : Int)) = false ∨ (((xq : Int) == (q : Int) + (n : Int)) = true ∧ (s.q == (xq : Int)) = false) ∨ (((xq : Int) == (q : Int) + (n : Int)) = true ∧ (s.q == (xq : Int)) = true ∧ decide (ls ≤ s.e) = false) := by
        rw [← HN.out]
        simp only [beq_eq_false_iff_ne, beq_iff_eq, decide_eq_false_iff_not]
        omega
      clear hcond HST
      rcases hmx with ⟨hm1, hm2⟩ | ⟨hm1, hm2⟩
      all_goals rw [hm2] at HI HK HPUT
      all_goals rcases hcs with hc1 | ⟨hc1, hc2⟩ | ⟨hc1, hc2, hc3⟩
      all_goals gi_wp2_with fail
      all_goals exact ⟨HK.out.1, HK.out.2, HI.out⟩
  case done =>
    intro D2 xs W hD hxs hI hK
    obtain ⟨v, g1, g2, g3, g4, g5, g7, g6⟩ := hI
    have hx : prs xs = slots5 D f c q c := hxs
    rw [hx] at g2 g3 g4
    have hv1 : ∃ A n cc, v = .slice A n cc := by
      rcases g2.2 with ⟨h1, _⟩ | ⟨b, cc, cur, h1, _⟩
      · exact ⟨_, _, _, h1⟩
      · exact ⟨_, _, _, h1⟩
    obtain ⟨A, nn, cc, rfl⟩ := hv1
    have HNE : Hid (∀ k, (Value.slice A nn cc).ownBlock = some k → ¬ k = D2) := Lib.hid (fun k hk h => by
      subst h
      rcases g2.2 with ⟨h1, _⟩ | ⟨b, c1, cur, h1, _, hh, _⟩
      · rw [h1] at hk; simp [Value.ownBlock] at hk
      · rw [h1] at hk
        simp only [Value.ownBlock, Option.some.injEq] at hk
        rw [hk] at hh
        rw [hK] at hh
        cases hh)
    gi_wp2_with fail
    refine wpIn_wide.2 ?_
    refine wp_region_noPanic ?_
    refine wp_region_held_drew (S := fun X => X.cell? ⟨w.heap.size + 1 + 1, 0, none⟩ = some (.slice A nn cc) ∧ X.cell? ⟨w.heap.size + 1 + 1 + 1 + 1, 0, none⟩ = some (.int .i64 (lk5 q e (slots5 D f c q c)).most)) (by kernel_rfl) ⟨g1.drew.cell 0, g4.drew.cell 0⟩ (fun hHeld => ?_)
    -- region done
    refine wpAnyH_take (i := 0) (v := ?_) rfl (by kernel_rfl) (by kernel_rfl) (by kernel_rfl) (fun _ _ _ h => h) (Or.inl ⟨by rfl, ?_⟩) (by assumption) ?_
    rotate_left 1
    · intro w' hSw
      obtain ⟨p0, p1⟩ := hSw
      go_simp
      all_goals first | with_reducible rfl | (rw [if_neg (by omega)]; done) | (rw [if_pos (by omega)]; done) | (rw [if_neg (by omega)]; with_reducible rfl) | (rw [if_pos (by omega)]; with_reducible rfl)
    try simp only [List.getElem_toArray, List.getElem_cons_zero, Act.put, List.setIfInBounds_toArray, List.set_cons_zero, List.set_cons_succ]
    refine wpAnyH_take (i := 1) (v := ?_) rfl (by kernel_rfl) (by kernel_rfl) (by kernel_rfl) (fun _ _ _ h => h) (Or.inl ⟨by rfl, ?_⟩) (by assumption) ?_
    rotate_left 1
    · intro w' hSw
      obtain ⟨p0, p1⟩ := hSw
      go_simp
      all_goals first | with_reducible rfl | (rw [if_neg (by omega)]; done) | (rw [if_pos (by omega)]; done) | (rw [if_neg (by omega)]; with_reducible rfl) | (rw [if_pos (by omega)]; with_reducible rfl)
    try simp only [List.getElem_toArray, List.getElem_cons_zero, List.getElem_cons_succ, Act.put, List.setIfInBounds_toArray, List.set_cons_zero, List.set_cons_succ]
    refine wpAnyH_take (i := 2) (v := ?_) rfl (by kernel_rfl) (by kernel_rfl) (by kernel_rfl) (fun _ _ _ h => h) (Or.inl ⟨by rfl, ?_⟩) (by assumption) ?_
    rotate_left 1
    · intro w' hSw
      go_simp
      all_goals first | with_reducible rfl | (rw [if_neg (by omega)]; done) | (rw [if_pos (by omega)]; done) | (rw [if_neg (by omega)]; with_reducible rfl) | (rw [if_pos (by omega)]; with_reducible rfl)
    try simp only [List.getElem_toArray, List.getElem_cons_zero, List.getElem_cons_succ, Act.put, List.setIfInBounds_toArray, List.set_cons_zero, List.set_cons_succ]
    refine wpAnyH_take (i := 3) (v := ?_) rfl (by kernel_rfl) (by kernel_rfl) (by kernel_rfl) (fun _ _ _ h => h) (Or.inl ⟨by rfl, ?_⟩) (by assumption) ?_
    rotate_left 1
    · intro w' hSw
      go_simp
      all_goals first | with_reducible rfl | (rw [if_neg (by omega)]; done) | (rw [if_pos (by omega)]; done) | (rw [if_neg (by omega)]; with_reducible rfl) | (rw [if_pos (by omega)]; with_reducible rfl)
    try simp only [List.getElem_toArray, List.getElem_cons_zero, List.getElem_cons_succ, Act.put, List.setIfInBounds_toArray, List.set_cons_zero, List.set_cons_succ]
    refine wpAnyH_done (by kernel_rfl) ?_ _
    refine NoPanic.normal ?_
    -- region done end
    clear hHeld
    have KD := Lib.hid (show W.drew.heap[D2]? = some (.deferred (some [])) from hK)
    gi_wp2_with fail
    refine ret_mark (D := D2) KD.out rfl (results_tmp2 (t := 6) (u := 7) (by kernel_rfl) _ _ _) ?_
    refine ⟨_, rfl, ?_, (g6.trans ((Turn.refl _ W).drew)).trans_new (put_turn5 W.drew D2 _) (fun k hk h => by omega)⟩
    refine World.ownsRow.turn5 (own_low5 g2.drew (by omega)) (put_turn5 W.drew D2 _) (fun k hk h => HNE.out k hk h)
end Go.Proofs.Ythhmodbggngelaa
