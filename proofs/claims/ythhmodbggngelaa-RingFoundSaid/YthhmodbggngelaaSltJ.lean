/- strings.Clone, by the library's contract. -/
import Derived.Test.YthhmodbggngelaaKern
import Derived.Shelf.Strconv.Clone
import Derived.Test.YthhmodbggngelaaSltI
namespace Go.Proofs.Ythhmodbggngelaa
open Go.Shelf Go.RowKit
set_option linter.unusedVariables false
set_option maxRecDepth 100000

def lays316_ren : Go.Shelf.Ren := ⟨fun | 316 => 47 | n => n, fun | 0 => 0 | 3 => 3 | 4 => 4 | 5 => 5 | 9 => 9 | 37 => 53 | 127 => 105 | n => n, fun | n => n⟩
theorem lays316 : Go.Proofs.LaysM.n316 Try.prog lays316_ren := {
  mixed := by kernel_rfl
  f316 := Try.func47.trans (congrArg some (by kernel_rfl))
  t0 := Try.underlying0
  a0 := Try.isAgg0
  z0 := Try.sizeOf0
  v0 := Try.zeroValue0
  i0 := by kernel_rfl
  t3 := Try.underlying3
  a3 := Try.isAgg3
  z3 := Try.sizeOf3
  v3 := Try.zeroValue3
  i3 := by kernel_rfl
  t4 := Try.underlying4
  a4 := Try.isAgg4
  z4 := Try.sizeOf4
  v4 := Try.zeroValue4
  i4 := by kernel_rfl
  t5 := Try.underlying5
  a5 := Try.isAgg5
  z5 := Try.sizeOf5
  v5 := Try.zeroValue5
  i5 := by kernel_rfl
  t9 := Try.underlying9
  a9 := Try.isAgg9
  z9 := Try.sizeOf9
  v9 := Try.zeroValue9
  i9 := by kernel_rfl
  t37 := Try.underlying53
  a37 := Try.isAgg53
  z37 := Try.sizeOf53
  v37 := Try.zeroValue53
  i37 := by kernel_rfl
  t127 := Try.underlying105
  a127 := Try.isAgg105
  z127 := Try.sizeOf105
  v127 := Try.zeroValue105
  i127 := by kernel_rfl }
theorem clone5 (s : ByteArray) (w : World) (hs : s.size ≤ 281474976710656) : Calls Try.prog 32 #[.string s] w fun e w' => ∃ v, e = .returned v ∧ v = .string s ∧ Turn (fun _ => False) w w' := by
  have HC : Hid (∀ W, Calls Try.prog 47 #[.string s] W fun e w' => e = .returned (.string s) ∧ Below W.heap.size W w') := Lib.hid (fun W => Any.stringslite_Clone lays316 s W hs)
  go_enter Try.func32, Try.ntmps32
  go_wp2_with fail
  refine (HC.out _).mono ?_
  rintro e w1 ⟨rfl, hb⟩
  go_wp2_with fail
  go_ret
  exact ⟨_, rfl, rfl, Turn.of_below hb (fun k h1 h2 => by omega)⟩
end Go.Proofs.Ythhmodbggngelaa
/- Layer 5: Cut. -/
namespace Go.Proofs.Ythhmodbggngelaa
open Go.RowKit Go.Shelf
set_option linter.unusedVariables false
set_option maxRecDepth 100000
attribute [local go_sem] Oper.semAt_some

def scells (s : St) : List Value := [.int .i64 s.e, .int .i64 s.q, .bool s.f, .bool s.z, .string s.d]
theorem len_scells (l : List St) : (l.flatMap scells).length = l.length * 5 := by
  induction l with
  | nil => rfl
  | cons x l ih => rw [List.flatMap_cons, List.length_append, ih, List.length_cons]; simp [scells]; omega
/-- Slots of pieces, no flags yet. -/
def raw5 (e q : Int) (ps : List ByteArray) : List St := ps.zipIdx.map fun x => ⟨e, wrap64 (q + (x.2 : Int)), false, false, x.1⟩
theorem raw5_snoc (e q : Int) (ps : List ByteArray) (x : ByteArray) : raw5 e q (ps ++ [x]) = raw5 e q ps ++ [⟨e, wrap64 (q + (ps.length : Int)), false, false, x⟩] := by
  simp [raw5, List.zipIdx_append]
theorem len_raw5 (e q : Int) (ps : List ByteArray) : (raw5 e q ps).length = ps.length := by simp [raw5]
theorem Try.infoSlot : (Try.prog.info? 81).map (fun i => (i.zero, i.size, i.bytes)) = some (some (.agg #[.int .i64 0, .int .i64 0, .bool false, .bool false, .string ⟨#[]⟩]), 5, 40) := by kernel_rfl
theorem pieces5 (S : ByteArray) (w : World) : Calls Try.prog 40 #[.string S] w fun e w' => e = .returned (.func (.func 56) #[] #[.pointer (some ⟨w.heap.size, 0, none⟩)]) ∧ w' = w.alloc (.cells #[.string S] 9) := by
  go_enter Try.func40, Try.ntmps40
  go_wp2
  go_ret
  exact ⟨rfl, rfl⟩
theorem cut5_big (S : ByteArray) (h : 16384 < S.size) (e q : Int) (w : World) :
    Calls Try.prog 26 #[.string S, .int .i64 e, .int .i64 q] w fun r w' => r = .returned (.tuple #[.slice none 0 0, .int .i64 5]) ∧ Below w.heap.size w w' := by
  have h2 : (16384 : Int) < (S.size : Int) := by omega
  clear h
  go_enter Try.func26, Try.ntmps26
  go_wp2
  go_ret2
  exact ⟨rfl, ((Below.refl _ _).alloc (Nat.le_refl _) _).alloc (by simp) _⟩
/-- What lies between two rounds. -/
def CutI (w : World) (e q : Int) (g : Nat) (pre : List ByteArray) (W : World) : Prop :=
  ∃ v, Blk W (g + 2) 54 [v] ∧ W.ownsRow (g + 3) 81 5 v pre.length ((raw5 e q pre).flatMap scells) ∧ Blk W g 3 [.int .i64 e] ∧ Blk W (g + 1) 3 [.int .i64 q] ∧ Below g w W
theorem grown_turn5 {w w' : World} {row : Option Nat} (h : w.grownBy w' row) : Turn (fun k => row = some k) w w' := ⟨h.os, h.tape, h.output, h.size, fun k hk hne => h.block k hk (fun e => hne e.symm)⟩
theorem cutI_own (w : World) (e q : Int) (g B : Nat) (hg : w.heap.size = g) (hB : g ≤ B) : OwnFrom B (CutI w e q g) := fun pre W W' row hs hgr hr => by
  obtain ⟨v, h1, h2, h3, h4, h5⟩ := hs
  have ht := grown_turn5 hgr
  have far : ∀ {b t : Nat} {cs : List Value}, Blk W b t cs → ¬ row = some b := fun {b t cs} hb er => by
    obtain ⟨_, o, ho, hc⟩ := hr b er
    unfold Blk at hb
    rw [hb] at ho
    injection ho with ho
    rw [← ho] at hc
    cases hc
  refine ⟨v, h1.turn ht (far h1), ?_, h3.turn ht (far h3), h4.turn ht (far h4), h5.trans ?_⟩
  · obtain ⟨hx, h | ⟨b, c, cur, ev, hB', hh, hrest⟩⟩ := h2
    · exact ⟨hx, .inl h⟩
    · refine ⟨hx, .inr ⟨b, c, cur, ev, hB', ?_, hrest⟩⟩
      rw [ht.block b (Array.getElem?_eq_some_iff.1 hh).1 (fun er => by
        obtain ⟨_, o, ho, hc⟩ := hr b er
        rw [hh] at ho
        injection ho with ho
        rw [← ho] at hc
        cases hc)]
      exact hh
  · exact ht.below (by have := h5.size; omega) (fun k er => by obtain ⟨h6, _⟩ := hr k er; omega)
theorem step_app_slot {P : Program} (w : World) {ops : Array Oper} {o : Oper} {a : Go.Act} {K : Go.Act → World → Prop} {Q : Exit → Go.Act → World → Prop} {E : Prop} (hgd : o.guard = none) (s x : Operand) (t : TypeId)
    (ho : o.op = .call { callee := .builtin .append, args := #[s, x], argTypes := #[t, t] })
    (base : Nat) (e : TypeId) (i : TypeInfo) (z : Value) (ht : P.underlying t = some (.slice e)) (hi : P.info? e = some i) (hz : i.zero = some z) (hsize : i.size = 5) (hby : i.bytes = 40) (hzs : z.cells.size = 5)
    (v : Value) (n : Nat) (xs : List Value) (hs : a.eval s = v) (hown : w.ownsRow base e 5 v n xs) (g c : Nat) (news : List Value) (hx : a.eval x = .slice (some ⟨g, 0, none⟩) 1 c) (hb : Blk w g e news) (hl : news.length = 5)
    (h1 : ∀ u ∈ news, u.oneCell' = true) (hn : n ≤ 1000) (hbase : base ≤ w.heap.size)
    (h : ∀ v' w', w'.ownsRow base e 5 v' (n + 1) (xs ++ news) → w.grownBy w' v.ownBlock → K (a.put o.dst v') w') :
    if Region.wanted o (yielded ops a.tmps) = true then Oper.wp P o a w K Q else E := by
  have hw : Region.wanted o (yielded ops a.tmps) = true := by simp [Region.wanted, hgd]
  rw [if_pos hw]
  obtain ⟨v', w', hr, h2, h3, _⟩ := run_append_own (P := P) w base t o.type e i z 5 40 ht hi hz hsize hby hzs (by decide) v n xs hown ⟨g, 0, none⟩ 1 c news (by omega) (fun j u hu => by
    have := hb.cell j
    rw [Addr.add_mid, Nat.zero_add]
    exact this.trans hu) h1 (by unfold maxLen; omega) (by omega) hbase
  unfold Oper.wp execOp
  simp only [ho, resolve, invoke, builtin, Sem.run_bind, Sem.run_pure, Result.andThen_ok, List.map_toArray, List.map_cons, List.map_nil, hs, hx, hr]
  exact h v' w' h2 h3
theorem World.ownsRow.turn5 {w w' : World} {base e size n : Nat} {v : Value} {xs : List Value} {S : Nat → Prop} (h : w.ownsRow base e size v n xs) (ht : Turn S w w') (hne : ∀ k, v.ownBlock = some k → ¬ S k) : w'.ownsRow base e size v n xs := by
  refine ⟨h.1, ?_⟩
  rcases h.2 with hn | ⟨g, cap, cur, rfl, hb, hgg, rest⟩
  · exact .inl hn
  · refine .inr ⟨g, cap, cur, rfl, hb, ?_, rest⟩
    rw [ht.block g (Array.getElem?_eq_some_iff.1 hgg).1 (hne g rfl)]
    exact hgg
theorem World.ownsRow.base5 {w : World} {base e size n : Nat} {v : Value} {xs : List Value} (h : w.ownsRow base e size v n xs) : ∀ k, v.ownBlock = some k → base ≤ k := by
  intro k hk
  rcases h.2 with ⟨rfl, _⟩ | ⟨g, cap, cur, rfl, hb, _⟩
  · simp [Value.ownBlock] at hk
  · simp [Value.ownBlock] at hk; omega
theorem cutI_step {w W : World} {e q : Int} {g B : Nat} {L : List ByteArray} {x : ByteArray} {A : Option Addr} {cap : Nat} (g1 : Blk W (g + 2) 54 [.slice A L.length cap])
    (g2 : W.ownsRow (g + 3) 81 5 (.slice A L.length cap) L.length ((raw5 e q L).flatMap scells)) (hW : Below g w W) (hg : g + 2 < W.heap.size) (w7 w10 : World) (v10 : Value) (t7 : Turn (fun _ => False) W.drew w7)
    (o10 : w10.ownsRow (g + 3) 81 5 v10 (L.length + 1) ((raw5 e q L).flatMap scells ++ [.int .i64 e, .int .i64 (IntKind.i64.wrap (q + (L.length : Int))), .bool false, .bool false, .string x]))
    (tb : Turn (fun k => (Value.slice A L.length cap).ownBlock = some k) (w7.alloc (.cells #[.int .i64 e, .int .i64 (IntKind.i64.wrap (q + (L.length : Int))), .bool false, .bool false, .string x] 81)) w10)
    (n1 : Blk (w10.setCell ⟨g + 1 + 1, 0, none⟩ v10) (g + 1 + 1) 54 [v10]) (n3 : Blk (w10.setCell ⟨g + 1 + 1, 0, none⟩ v10) g 3 [.int .i64 e]) (n4 : Blk (w10.setCell ⟨g + 1 + 1, 0, none⟩ v10) (g + 1) 3 [.int .i64 q])
    (ts : Turn (fun k => k = g + 1 + 1) w10 (w10.setCell ⟨g + 1 + 1, 0, none⟩ v10)) :
    KeepsFrom B W (w10.setCell ⟨g + 1 + 1, 0, none⟩ v10) ∧ CutI w e q g (L ++ [x]) (w10.setCell ⟨g + 1 + 1, 0, none⟩ v10) := by
  have TT : Turn (fun k => (Value.slice A L.length cap).ownBlock = some k ∨ k = g + 1 + 1) W (w10.setCell ⟨g + 1 + 1, 0, none⟩ v10) :=
    ((((Turn.refl _ W).drew.trans_new t7 (fun k _ h => h.elim)).alloc _).trans_new tb (fun k _ h => .inl h)).trans_new ts (fun k _ h => .inr h)
  have hbase := World.ownsRow.base5 g2
  refine ⟨⟨TT.size, fun k o _ ho hc => ?_⟩, ⟨v10, n1, ?_, n3, n4, hW.trans (TT.below (by omega) (fun k h => by rcases h with h | h; have := hbase k h; omega; omega))⟩⟩
  · rw [TT.block k (Array.getElem?_eq_some_iff.1 ho).1 (fun h => by
      rcases h with h | h
      · rcases g2.2 with ⟨e1, _⟩ | ⟨b, c, cur, e1, _, hb, _⟩
        · rw [e1] at h; simp [Value.ownBlock] at h
        · rw [e1] at h
          simp [Value.ownBlock] at h
          rw [h] at hb
          rw [hb] at ho
          injection ho with ho
          rw [← ho] at hc
          cases hc
      · unfold Blk at g1
        rw [h] at ho
        rw [g1] at ho
        injection ho with ho
        rw [← ho] at hc
        cases hc)]
    exact ho
  · rw [raw5_snoc, List.flatMap_append, List.length_append]
    rw [IntWalk.i64_left] at o10
    exact World.ownsRow.turn5 o10 ts (fun k hk h => by have := World.ownsRow.base5 o10 k hk; omega)
theorem flat_at5 (l : List St) (j i : Nat) (s : St) (hs : l[j]? = some s) (hi : i < 5) : (l.flatMap scells)[j * 5 + i]? = (scells s)[i]? := by
  induction l generalizing j with
  | nil => simp at hs
  | cons x l ih =>
    rw [List.flatMap_cons]
    cases j with
    | zero =>
      simp only [List.getElem?_cons_zero, Option.some.injEq] at hs
      subst hs
      rw [List.getElem?_append_left (by simp [scells]; omega)]
      simp
    | succ j =>
      simp only [List.getElem?_cons_succ] at hs
      rw [List.getElem?_append_right (by simp [scells]; omega), ← ih j hs]
      congr 1
      simp [scells]; omega
theorem row5_cell {W : World} {b N : Nat} {cur : Array Value} {l : List St} (hb : W.heap[b]? = some (.cells cur 81 (0, 0))) (ht : cur.toList.take (N * 5) = l.flatMap scells) (hl : l.length = N) (j : Nat) (s : St) (hs : l[j]? = some s) (i : Nat) (hi : i < 5) :
    W.cell? ⟨b, j * 5 + i, none⟩ = (scells s)[i]? := by
  have hB : Blk W b 81 cur.toList := by unfold Blk; simpa using hb
  have hj : j < N := by rw [← hl]; exact (List.getElem?_eq_some_iff.1 hs).1
  rw [hB.cell, ← flat_at5 l j i s hs hi, ← ht, List.getElem?_take_of_lt (by omega)]
def mod5 (g : St → St) : List St → Nat → List St
  | [], _ => []
  | x :: l, 0 => g x :: l
  | x :: l, j + 1 => x :: mod5 g l j
theorem len_mod5 (g : St → St) : ∀ (l : List St) (j : Nat), (mod5 g l j).length = l.length
  | [], _ => rfl
  | _ :: _, 0 => rfl
  | x :: l, j + 1 => by simp [mod5, len_mod5 g l j]
theorem set5 (g : St → St) (v : Value) (i : Nat) (hi : i < 5) (hg : ∀ s, scells (g s) = (scells s).set i v) : ∀ (l : List St) (j : Nat), (l.flatMap scells).set (j * 5 + i) v = (mod5 g l j).flatMap scells
  | [], _ => by simp [mod5]
  | x :: l, 0 => by
    rw [List.flatMap_cons, mod5, List.flatMap_cons, hg, List.set_append_left _ _ (by simp [scells]; omega)]
    simp
  | x :: l, j + 1 => by
    rw [List.flatMap_cons, mod5, List.flatMap_cons, ← set5 g v i hi hg l j, List.set_append_right _ _ (by simp [scells]; omega)]
    congr 2
    simp [scells]; omega
/-- Are the first and the last one right? -/
def ok5 (R : List St) : Bool := (R[0]?.all r5) && (R[R.length - 1]?.all r5)
/-- The first one begins, the last one ends. -/
def mk5 (R : List St) : List St := mod5 (fun s => { s with z := true }) (mod5 (fun s => { s with f := true }) R 0) (R.length - 1)
theorem ret_mark {P : Program} {fn : Func} {R : Ending → World → Prop} {a : Go.Act} {W : World} {D : Nat} {v : Value} (hk : W.heap[D]? = some (.deferred (some []))) (hd : a.defers = [{ target := .collected D, args := #[] }])
    (hr : (results fn a.tmps).run P (W.putObj D (.deferred none)) = .ok v (W.putObj D (.deferred none))) (hR : R (.returned v) (W.putObj D (.deferred none))) : bodyPostM Fence.wide 3 P fn R .ret a W := by
  show LeavesInM _ _ _ _ _ _ a.defers .returning W
  rw [hd]
  exact ⟨(fun h => nomatch h), .inl ⟨D, _, rfl, run_takeDeferred hk, ⟨v, hr, hR⟩⟩⟩
theorem put_turn5 (W : World) (D : Nat) (o : Obj) : Turn (fun k => k = D) W (W.putObj D o) := (grown_turn5 (grownBy_putObj' W D o)).mono (fun k _ h => by injection h with h; exact h.symm)
def CutPost (w : World) (R : List St) (r : Ending) (w' : World) : Prop :=
  Below w.heap.size w w' ∧ ((ok5 R = false ∧ r = .returned (.tuple #[.slice none 0 0, .int .i64 2])) ∨ (ok5 R = true ∧ ∃ v, r = .returned (.tuple #[v, .int .i64 0]) ∧ w'.ownsRow w.heap.size 81 5 v R.length ((mk5 R).flatMap scells)))
set_option maxHeartbeats 4000000 in
theorem cut5_any (S : ByteArray) (h : S.size ≤ 16384) (e q : Int) (w : World) :
    Calls Try.prog 26 #[.string S, .int .i64 e, .int .i64 q] w fun r w' => CutPost w (raw5 e q (pcs5 S)) r w' := by
  have h2 : (S.size : Int) ≤ 16384 := by omega
  refine (callsIn_wide (n := 3)).1 ?_
  refine callsIn_of_wp_marks Try.func26 rfl trivial ?_ rfl
  simp only [Try.ntmps26, List.size_toArray, List.length_cons, List.length_nil, Nat.reduceAdd, Nat.reduceSub, Array.replicate_succ, Array.replicate_zero, List.push_toArray, List.append_toArray, List.nil_append, List.cons_append]
  gi_wp2_with (first
    | (refine ⟨trivial, ?_⟩; gi_at_call 40; refine (callsIn_wide.2 (pieces5 S _)).mono ?_; rintro e1 w1 ⟨rfl, rfl⟩)
    | (gi_at_call 40; refine (callsIn_wide.2 (pieces5 S _)).mono ?_; rintro e1 w1 ⟨rfl, rfl⟩))
  have B0 : Hid (Below w.heap.size w ((((w.alloc (.cells #[.int .i64 e] 3)).alloc (.cells #[.int .i64 q] 3)).alloc (.cells #[.slice none 0 0] 54)).alloc (.cells #[.string S] 9)) ∧ ((((w.alloc (.cells #[.int .i64 e] 3)).alloc (.cells #[.int .i64 q] 3)).alloc (.cells #[.slice none 0 0] 54)).alloc (.cells #[.string S] 9)).heap.size = w.heap.size + 1 + 1 + 1 + 1) := Lib.hid ⟨((((Below.refl w.heap.size w).alloc (Nat.le_refl _) _).alloc (by simp) _).alloc (by simp; omega) _).alloc (by simp; omega) _, by simp⟩
  have I0 : Hid (CutI w e q w.heap.size [] ((((w.alloc (.cells #[.int .i64 e] 3)).alloc (.cells #[.int .i64 q] 3)).alloc (.cells #[.slice none 0 0] 54)).alloc (.cells #[.string S] 9))) := Lib.hid ⟨.slice none 0 0, (Blk.new_ _ 54 [.slice none 0 0] (k := w.heap.size + 2) (by simp)).alloc _, World.ownsRow_nil _ _ _ _, (((Blk.new w 3 [.int .i64 e]).alloc _).alloc _).alloc _, ((Blk.new_ _ 3 [.int .i64 q] (k := w.heap.size + 1) (by simp)).alloc _).alloc _, B0.out.1⟩
  have C0 : Hid (((((w.alloc (.cells #[.int .i64 e] 3)).alloc (.cells #[.int .i64 q] 3)).alloc (.cells #[.slice none 0 0] 54)).alloc (.cells #[.string S] 9)).cell? ⟨w.heap.size + 1 + 1 + 1, 0, none⟩ = some (.string S)) := Lib.hid ((Blk.new_ _ 9 [.string S] (k := w.heap.size + 1 + 1 + 1) (by simp)).cell 0)
  generalize ((((w.alloc (.cells #[.int .i64 e] 3)).alloc (.cells #[.int .i64 q] 3)).alloc (.cells #[.slice none 0 0] 54)).alloc (.cells #[.string S] 9)) = W0 at *
  refine wpIn_rangeFunc_ownG (F := Fence.wide) (n := 3) rfl (by decide) (gf := 56) (lb := #[.pointer (some ⟨w.heap.size + 1 + 1 + 1, 0, none⟩)]) rfl trivial (enters_of Try.func56 (by kernel_rfl) rfl)
    (pieces_stops S (by omega) _ W0 C0.out) (fun _ _ => trivial) (fun _ _ _ _ _ _ _ _ => trivial) (Below.refl _ _) (fun _ => rfl)
    (fun ps => CutI w e q w.heap.size (ps.map Pc.d)) (fun _ _ _ => False) (fun ps => cutI_own w e q w.heap.size _ rfl (by have := B0.out.2; omega) (ps.map Pc.d)) (fun _ _ _ _ _ hs _ _ => hs) I0.out ?a1 ?assign ?body ?done ?stop
  case assign =>
    intro l x W K hK
    gi_wp2
    exact hK
  case body =>
    intro l pre px W hI hlen
    obtain ⟨v, g1, g2, g3, g4, g5⟩ := hI
    obtain ⟨i0, hi0, hy1, hy2, hy3⟩ := info_parts Try.infoSlot
    have hpl : (pre.map Pc.d).length ≤ 200 := by
      have := pcs5_len S.size S rfl
      rw [List.length_map]; omega
    obtain ⟨A, cap, rfl⟩ : ∃ A cap, v = .slice A (pre.map Pc.d).length cap := by
      rcases g2.2 with ⟨e1, e2⟩ | ⟨b, c, cur, e1, _⟩
      · exact ⟨_, _, by rw [e1, e2]⟩
      · exact ⟨_, _, e1⟩
    obtain ⟨L, hL⟩ : ∃ L, pre.map Pc.d = L := ⟨_, rfl⟩
    rw [hL] at g1 g2 hpl
    have HLx : Hid ((pre ++ [px]).map Pc.d = L ++ [px.d]) := Lib.hid (by rw [List.map_append, hL]; rfl)
    clear hL hlen
    have hxs := px.h
    obtain ⟨x, hx⟩ : ∃ x, px.d = x := ⟨_, rfl⟩
    rw [hx] at hxs HLx ⊢
    clear hx
    have HE := Lib.hid (cutI_step (w := w) (x := x) (B := W0.heap.size) g1 g2 g5 (by have := g1.lt; omega))
    have c0 := g1.drew.cell 0
    simp only [List.getElem?_cons_zero] at c0
    gi_wp2
    refine region_round l _ (by kernel_rfl) (by rintro ⟨a, w, h⟩; exact h) (by kernel_rfl) (S := fun X => X.cell? ⟨w.heap.size, 0, none⟩ = some (.int .i64 e) ∧ X.cell? ⟨w.heap.size + 1, 0, none⟩ = some (.int .i64 q)) (fun hHeld => ?_) ⟨g3.drew.cell 0, g4.drew.cell 0⟩
    refine wpAnyH_take (i := 1) (v := ?_) rfl (by kernel_rfl) (by kernel_rfl) (by kernel_rfl) (fun _ _ _ h => h) (Or.inl ⟨by rfl, ?_⟩) (by assumption) ?_
    rotate_left 1
    · intro w' hSw
      obtain ⟨y1, y2⟩ := hSw
      go_simp
      all_goals first | with_reducible rfl | (rw [if_neg (by omega)]; done) | (rw [if_neg (by omega)]; with_reducible rfl)
    try simp only [List.getElem_toArray, List.getElem_cons_zero, List.getElem_cons_succ, Act.put, List.setIfInBounds_toArray, List.set_cons_zero, List.set_cons_succ]
    refine wpAnyH_take (i := 2) (v := ?_) rfl (by kernel_rfl) (by kernel_rfl) (by kernel_rfl) (fun _ _ _ h => h) (Or.inl ⟨by rfl, ?_⟩) (by assumption) ?_
    rotate_left 1
    · intro w' hSw
      obtain ⟨y1, y2⟩ := hSw
      go_simp
      all_goals first | with_reducible rfl | (rw [if_neg (by omega)]; done) | (rw [if_neg (by omega)]; with_reducible rfl)
    try simp only [List.getElem_toArray, List.getElem_cons_zero, List.getElem_cons_succ, Act.put, List.setIfInBounds_toArray, List.set_cons_zero, List.set_cons_succ]
    refine wpAnyH_take (i := 6) (v := ?_) rfl (by kernel_rfl) (by kernel_rfl) (by kernel_rfl) (fun _ _ _ h => h) (Or.inl ⟨by rfl, ?_⟩) (by assumption) ?_
    rotate_left 1
    · intro w' hSw
      obtain ⟨y1, y2⟩ := hSw
      go_simp
      all_goals first | with_reducible rfl | (rw [if_neg (by omega)]; done) | (rw [if_neg (by omega)]; with_reducible rfl)
    try simp only [List.getElem_toArray, List.getElem_cons_zero, List.getElem_cons_succ, Act.put, List.setIfInBounds_toArray, List.set_cons_zero, List.set_cons_succ]
    refine wpAnyH_ready (rs := [0, 3, 7]) (by kernel_rfl) (by simp) ?_
    refine AllReadyH.cons rfl (fun K hK => ?_) (AllReadyH.cons rfl (fun K hK => ?_) (AllReadyH.cons rfl (fun K hK => ?_) AllReadyH.nil))
    · go_simp
      refine hK.out _ _ hHeld (fun hHeld => ?_)
      clear hK K
      try simp only [List.getElem_toArray, List.getElem_cons_zero, List.getElem_cons_succ, Act.put, List.setIfInBounds_toArray, List.set_cons_zero, List.set_cons_succ]
      refine wpAnyH_ready (rs := [3, 7]) (by kernel_rfl) (by simp) ?_
      refine AllReadyH.cons rfl (fun K hK => ?_) (AllReadyH.cons rfl (fun K hK => ?_) AllReadyH.nil)
      · go_simp
        refine hK.out _ _ hHeld (fun hHeld => ?_)
        clear hK K
        try simp only [List.getElem_toArray, List.getElem_cons_zero, List.getElem_cons_succ, Act.put, List.setIfInBounds_toArray, List.set_cons_zero, List.set_cons_succ]
        refine wpAnyH_take (i := 4) (v := ?_) rfl (by kernel_rfl) (by kernel_rfl) (by kernel_rfl) (fun _ _ _ h => h) (Or.inl ⟨by rfl, ?_⟩) (by assumption) ?_
        rotate_left 1
        · intro w' hSw
          obtain ⟨y1, y2⟩ := hSw
          go_simp
          all_goals first | with_reducible rfl | (rw [if_neg (by omega)]; done) | (rw [if_neg (by omega)]; with_reducible rfl)
        try simp only [List.getElem_toArray, List.getElem_cons_zero, List.getElem_cons_succ, Act.put, List.setIfInBounds_toArray, List.set_cons_zero, List.set_cons_succ]
        refine wpAnyH_take (i := 5) (v := ?_) rfl (by kernel_rfl) (by kernel_rfl) (by kernel_rfl) (fun _ _ _ h => h) (Or.inl ⟨by rfl, ?_⟩) (by assumption) ?_
        rotate_left 1
        · intro w' hSw
          obtain ⟨y1, y2⟩ := hSw
          go_simp
          all_goals first | with_reducible rfl | (rw [if_neg (by omega)]; done) | (rw [if_neg (by omega)]; with_reducible rfl)
        try simp only [List.getElem_toArray, List.getElem_cons_zero, List.getElem_cons_succ, Act.put, List.setIfInBounds_toArray, List.set_cons_zero, List.set_cons_succ]
        refine wpAnyH_ready (rs := [7]) (by kernel_rfl) (by simp) ?_
        refine AllReadyH.cons rfl (fun K hK => ?_) AllReadyH.nil
        refine step_call rfl 32 Try.f32 _ _ rfl Try.func32 (by kernel_rfl) (by kernel_rfl) _ _ (clone5 x _ (by omega)) (by go_simp) ?_
        rintro v7 w7 ⟨rfl, ht7⟩
        have t1 := g1.drew.turn ht7 (fun h => h)
        have t3 := g3.drew.turn ht7 (fun h => h)
        have t4 := g4.drew.turn ht7 (fun h => h)
        have T1 := Lib.hid t1
        have T3 := Lib.hid t3
        have T4 := Lib.hid t4
        have T2 := Lib.hid (World.ownsRow.turn5 g2.drew ht7 (fun _ _ h => h))
        have HT7 := Lib.hid ht7
        have c7 := t1.cell 0
        simp only [List.getElem?_cons_zero] at c7
        refine hK.out _ _ ⟨t3.cell 0, t4.cell 0⟩ (fun hHeld => ?_)
        clear hK K t1 t3 t4 ht7
        try simp only [List.getElem_toArray, List.getElem_cons_zero, List.getElem_cons_succ, Act.put, List.setIfInBounds_toArray, List.set_cons_zero, List.set_cons_succ]
        refine wpAnyH_take (i := 8) (v := ?_) rfl (by kernel_rfl) (by kernel_rfl) (by kernel_rfl) (fun _ _ _ h => h) (Or.inl ⟨by rfl, ?_⟩) (by assumption) ?_
        rotate_left 1
        · intro w' hSw
          obtain ⟨y1, y2⟩ := hSw
          go_simp
          all_goals first | with_reducible rfl | (rw [if_neg (by omega)]; done) | (rw [if_neg (by omega)]; with_reducible rfl)
        try simp only [List.getElem_toArray, List.getElem_cons_zero, List.getElem_cons_succ, Act.put, List.setIfInBounds_toArray, List.set_cons_zero, List.set_cons_succ]
        refine wpAnyH_ready (rs := [9]) (by kernel_rfl) (by simp) ?_
        refine AllReadyH.cons rfl (fun K hK => ?_) AllReadyH.nil
        go_simp
        have c9 := (T1.out.alloc (.cells #[.int .i64 e, .int .i64 (IntKind.i64.wrap (q + (L.length : Int))), .bool false, .bool false, .string x] 81)).cell 0
        simp only [List.getElem?_cons_zero] at c9
        refine hK.out _ _ ⟨(T3.out.alloc _).cell 0, (T4.out.alloc _).cell 0⟩ (fun hHeld => ?_)
        clear hK K
        try simp only [List.getElem_toArray, List.getElem_cons_zero, List.getElem_cons_succ, Act.put, List.setIfInBounds_toArray, List.set_cons_zero, List.set_cons_succ]
        refine wpAnyH_ready (rs := [10]) (by kernel_rfl) (by simp) ?_
        refine AllReadyH.cons rfl (fun K hK => ?_) AllReadyH.nil
        refine step_app_slot _ rfl _ _ 54 rfl (w.heap.size + 3) 81 i0 _ Try.underlying54 hi0 hy1 hy2 hy3 rfl (.slice A L.length cap) L.length _ rfl (T2.out.alloc _) w7.heap.size 1 [.int .i64 e, .int .i64 (IntKind.i64.wrap (q + (L.length : Int))), .bool false, .bool false, .string x] rfl (Blk.new w7 81 [.int .i64 e, .int .i64 (IntKind.i64.wrap (q + (L.length : Int))), .bool false, .bool false, .string x]) rfl (by simp [Value.oneCell']) (by omega) ?_ ?_
        · have := HT7.out.size; have := T1.out.lt; simp; omega
        intro v10 w10 o10 gb10
        obtain ⟨A10, c10, rfl⟩ : ∃ A10 c10, v10 = .slice A10 (L.length + 1) c10 := by
          rcases o10.2 with ⟨_, e2⟩ | ⟨b, c, cur, e1, _⟩
          · omega
          · exact ⟨_, _, e1⟩
        have O10 := Lib.hid o10
        have TB := Lib.hid (grown_turn5 gb10)
        have D1 := Lib.hid ((T1.out.alloc (.cells #[.int .i64 e, .int .i64 (IntKind.i64.wrap (q + (L.length : Int))), .bool false, .bool false, .string x] 81)).turn TB.out (fun h => by have := World.ownsRow.base5 T2.out _ h; omega))
        have D3 := Lib.hid ((T3.out.alloc (.cells #[.int .i64 e, .int .i64 (IntKind.i64.wrap (q + (L.length : Int))), .bool false, .bool false, .string x] 81)).turn TB.out (fun h => by have := World.ownsRow.base5 T2.out _ h; omega))
        have D4 := Lib.hid ((T4.out.alloc (.cells #[.int .i64 e, .int .i64 (IntKind.i64.wrap (q + (L.length : Int))), .bool false, .bool false, .string x] 81)).turn TB.out (fun h => by have := World.ownsRow.base5 T2.out _ h; omega))
        clear o10 gb10
        have k1 := D1.out.cell 0
        have k2 := D1.out.free 0
        simp only [List.getElem?_cons_zero] at k1
        refine hK.out _ _ ⟨D3.out.cell 0, D4.out.cell 0⟩ (fun hHeld => ?_)
        clear hK K
        try simp only [List.getElem_toArray, List.getElem_cons_zero, List.getElem_cons_succ, Act.put, List.setIfInBounds_toArray, List.set_cons_zero, List.set_cons_succ]
        refine wpAnyH_ready (rs := [11]) (by kernel_rfl) (by simp) ?_
        refine AllReadyH.cons rfl (fun K hK => ?_) AllReadyH.nil
        go_simp
        have N1 := Lib.hid (D1.out.put 0 (.slice A10 (L.length + 1) c10))
        have TS := Lib.hid (Turn.refl (fun k => k = w.heap.size + 1 + 1) w10 |>.setCell (p := ⟨w.heap.size + 1 + 1, 0, none⟩) (.inl rfl) (.slice A10 (L.length + 1) c10))
        have N3 := Lib.hid (D3.out.turn TS.out (by omega))
        have N4 := Lib.hid (D4.out.turn TS.out (by omega))
        refine hK.out _ _ ⟨N3.out.cell 0, N4.out.cell 0⟩ (fun hHeld => ?_)
        clear hK K
        try simp only [List.getElem_toArray, List.getElem_cons_zero, List.getElem_cons_succ, Act.put, List.setIfInBounds_toArray, List.set_cons_zero, List.set_cons_succ]
        refine wpAnyH_done (by kernel_rfl) ?_ _
        have hE := HE.out _ _ _ HT7.out O10.out TB.out N1.out N3.out N4.out TS.out
        refine ⟨hE.1, trivial, ?_⟩
        show CutI w e q w.heap.size ((pre ++ [px]).map Pc.d) _
        rw [HLx.out]
        exact hE.2
      · refine step_call rfl 32 Try.f32 _ _ rfl Try.func32 (by kernel_rfl) (by kernel_rfl) _ _ (clone5 x _ (by omega)) (by go_simp) ?_
        rintro v7 w7 ⟨rfl, ht7⟩
        have t1 := g1.drew.turn ht7 (fun h => h)
        have t3 := g3.drew.turn ht7 (fun h => h)
        have t4 := g4.drew.turn ht7 (fun h => h)
        have T1 := Lib.hid t1
        have T3 := Lib.hid t3
        have T4 := Lib.hid t4
        have T2 := Lib.hid (World.ownsRow.turn5 g2.drew ht7 (fun _ _ h => h))
        have HT7 := Lib.hid ht7
        have c7 := t1.cell 0
        simp only [List.getElem?_cons_zero] at c7
        refine hK.out _ _ ⟨t3.cell 0, t4.cell 0⟩ (fun hHeld => ?_)
        clear hK K t1 t3 t4 ht7
        try simp only [List.getElem_toArray, List.getElem_cons_zero, List.getElem_cons_succ, Act.put, List.setIfInBounds_toArray, List.set_cons_zero, List.set_cons_succ]
        refine wpAnyH_ready (rs := [3]) (by kernel_rfl) (by simp) ?_
        refine AllReadyH.cons rfl (fun K hK => ?_) AllReadyH.nil
        go_simp
        refine hK.out _ _ hHeld (fun hHeld => ?_)
        clear hK K
        try simp only [List.getElem_toArray, List.getElem_cons_zero, List.getElem_cons_succ, Act.put, List.setIfInBounds_toArray, List.set_cons_zero, List.set_cons_succ]
        refine wpAnyH_take (i := 4) (v := ?_) rfl (by kernel_rfl) (by kernel_rfl) (by kernel_rfl) (fun _ _ _ h => h) (Or.inl ⟨by rfl, ?_⟩) (by assumption) ?_
        rotate_left 1
        · intro w' hSw
          obtain ⟨y1, y2⟩ := hSw
          go_simp
          all_goals first | with_reducible rfl | (rw [if_neg (by omega)]; done) | (rw [if_neg (by omega)]; with_reducible rfl)
        try simp only [List.getElem_toArray, List.getElem_cons_zero, List.getElem_cons_succ, Act.put, List.setIfInBounds_toArray, List.set_cons_zero, List.set_cons_succ]
        refine wpAnyH_take (i := 5) (v := ?_) rfl (by kernel_rfl) (by kernel_rfl) (by kernel_rfl) (fun _ _ _ h => h) (Or.inl ⟨by rfl, ?_⟩) (by assumption) ?_
        rotate_left 1
        · intro w' hSw
          obtain ⟨y1, y2⟩ := hSw
          go_simp
          all_goals first | with_reducible rfl | (rw [if_neg (by omega)]; done) | (rw [if_neg (by omega)]; with_reducible rfl)
        try simp only [List.getElem_toArray, List.getElem_cons_zero, List.getElem_cons_succ, Act.put, List.setIfInBounds_toArray, List.set_cons_zero, List.set_cons_succ]
        refine wpAnyH_take (i := 8) (v := ?_) rfl (by kernel_rfl) (by kernel_rfl) (by kernel_rfl) (fun _ _ _ h => h) (Or.inl ⟨by rfl, ?_⟩) (by assumption) ?_
        rotate_left 1
        · intro w' hSw
          obtain ⟨y1, y2⟩ := hSw
          go_simp
          all_goals first | with_reducible rfl | (rw [if_neg (by omega)]; done) | (rw [if_neg (by omega)]; with_reducible rfl)
        try simp only [List.getElem_toArray, List.getElem_cons_zero, List.getElem_cons_succ, Act.put, List.setIfInBounds_toArray, List.set_cons_zero, List.set_cons_succ]
        refine wpAnyH_ready (rs := [9]) (by kernel_rfl) (by simp) ?_
        refine AllReadyH.cons rfl (fun K hK => ?_) AllReadyH.nil
        go_simp
        have c9 := (T1.out.alloc (.cells #[.int .i64 e, .int .i64 (IntKind.i64.wrap (q + (L.length : Int))), .bool false, .bool false, .string x] 81)).cell 0
        simp only [List.getElem?_cons_zero] at c9
        refine hK.out _ _ ⟨(T3.out.alloc _).cell 0, (T4.out.alloc _).cell 0⟩ (fun hHeld => ?_)
        clear hK K
        try simp only [List.getElem_toArray, List.getElem_cons_zero, List.getElem_cons_succ, Act.put, List.setIfInBounds_toArray, List.set_cons_zero, List.set_cons_succ]
        refine wpAnyH_ready (rs := [10]) (by kernel_rfl) (by simp) ?_
        refine AllReadyH.cons rfl (fun K hK => ?_) AllReadyH.nil
        refine step_app_slot _ rfl _ _ 54 rfl (w.heap.size + 3) 81 i0 _ Try.underlying54 hi0 hy1 hy2 hy3 rfl (.slice A L.length cap) L.length _ rfl (T2.out.alloc _) w7.heap.size 1 [.int .i64 e, .int .i64 (IntKind.i64.wrap (q + (L.length : Int))), .bool false, .bool false, .string x] rfl (Blk.new w7 81 [.int .i64 e, .int .i64 (IntKind.i64.wrap (q + (L.length : Int))), .bool false, .bool false, .string x]) rfl (by simp [Value.oneCell']) (by omega) ?_ ?_
        · have := HT7.out.size; have := T1.out.lt; simp; omega
        intro v10 w10 o10 gb10
        obtain ⟨A10, c10, rfl⟩ : ∃ A10 c10, v10 = .slice A10 (L.length + 1) c10 := by
          rcases o10.2 with ⟨_, e2⟩ | ⟨b, c, cur, e1, _⟩
          · omega
          · exact ⟨_, _, e1⟩
        have O10 := Lib.hid o10
        have TB := Lib.hid (grown_turn5 gb10)
        have D1 := Lib.hid ((T1.out.alloc (.cells #[.int .i64 e, .int .i64 (IntKind.i64.wrap (q + (L.length : Int))), .bool false, .bool false, .string x] 81)).turn TB.out (fun h => by have := World.ownsRow.base5 T2.out _ h; omega))
        have D3 := Lib.hid ((T3.out.alloc (.cells #[.int .i64 e, .int .i64 (IntKind.i64.wrap (q + (L.length : Int))), .bool false, .bool false, .string x] 81)).turn TB.out (fun h => by have := World.ownsRow.base5 T2.out _ h; omega))
        have D4 := Lib.hid ((T4.out.alloc (.cells #[.int .i64 e, .int .i64 (IntKind.i64.wrap (q + (L.length : Int))), .bool false, .bool false, .string x] 81)).turn TB.out (fun h => by have := World.ownsRow.base5 T2.out _ h; omega))
        clear o10 gb10
        have k1 := D1.out.cell 0
        have k2 := D1.out.free 0
        simp only [List.getElem?_cons_zero] at k1
        refine hK.out _ _ ⟨D3.out.cell 0, D4.out.cell 0⟩ (fun hHeld => ?_)
        clear hK K
        try simp only [List.getElem_toArray, List.getElem_cons_zero, List.getElem_cons_succ, Act.put, List.setIfInBounds_toArray, List.set_cons_zero, List.set_cons_succ]
        refine wpAnyH_ready (rs := [11]) (by kernel_rfl) (by simp) ?_
        refine AllReadyH.cons rfl (fun K hK => ?_) AllReadyH.nil
        go_simp
        have N1 := Lib.hid (D1.out.put 0 (.slice A10 (L.length + 1) c10))
        have TS := Lib.hid (Turn.refl (fun k => k = w.heap.size + 1 + 1) w10 |>.setCell (p := ⟨w.heap.size + 1 + 1, 0, none⟩) (.inl rfl) (.slice A10 (L.length + 1) c10))
        have N3 := Lib.hid (D3.out.turn TS.out (by omega))
        have N4 := Lib.hid (D4.out.turn TS.out (by omega))
        refine hK.out _ _ ⟨N3.out.cell 0, N4.out.cell 0⟩ (fun hHeld => ?_)
        clear hK K
        try simp only [List.getElem_toArray, List.getElem_cons_zero, List.getElem_cons_succ, Act.put, List.setIfInBounds_toArray, List.set_cons_zero, List.set_cons_succ]
        refine wpAnyH_done (by kernel_rfl) ?_ _
        have hE := HE.out _ _ _ HT7.out O10.out TB.out N1.out N3.out N4.out TS.out
        refine ⟨hE.1, trivial, ?_⟩
        show CutI w e q w.heap.size ((pre ++ [px]).map Pc.d) _
        rw [HLx.out]
        exact hE.2
    · go_simp
      refine hK.out _ _ hHeld (fun hHeld => ?_)
      clear hK K
      try simp only [List.getElem_toArray, List.getElem_cons_zero, List.getElem_cons_succ, Act.put, List.setIfInBounds_toArray, List.set_cons_zero, List.set_cons_succ]
      refine wpAnyH_take (i := 4) (v := ?_) rfl (by kernel_rfl) (by kernel_rfl) (by kernel_rfl) (fun _ _ _ h => h) (Or.inl ⟨by rfl, ?_⟩) (by assumption) ?_
      rotate_left 1
      · intro w' hSw
        obtain ⟨y1, y2⟩ := hSw
        go_simp
        all_goals first | with_reducible rfl | (rw [if_neg (by omega)]; done) | (rw [if_neg (by omega)]; with_reducible rfl)
      try simp only [List.getElem_toArray, List.getElem_cons_zero, List.getElem_cons_succ, Act.put, List.setIfInBounds_toArray, List.set_cons_zero, List.set_cons_succ]
      refine wpAnyH_take (i := 5) (v := ?_) rfl (by kernel_rfl) (by kernel_rfl) (by kernel_rfl) (fun _ _ _ h => h) (Or.inl ⟨by rfl, ?_⟩) (by assumption) ?_
      rotate_left 1
      · intro w' hSw
        obtain ⟨y1, y2⟩ := hSw
        go_simp
        all_goals first | with_reducible rfl | (rw [if_neg (by omega)]; done) | (rw [if_neg (by omega)]; with_reducible rfl)
      try simp only [List.getElem_toArray, List.getElem_cons_zero, List.getElem_cons_succ, Act.put, List.setIfInBounds_toArray, List.set_cons_zero, List.set_cons_succ]
      refine wpAnyH_ready (rs := [0, 7]) (by kernel_rfl) (by simp) ?_
      refine AllReadyH.cons rfl (fun K hK => ?_) (AllReadyH.cons rfl (fun K hK => ?_) AllReadyH.nil)
      · go_simp
        refine hK.out _ _ hHeld (fun hHeld => ?_)
        clear hK K
        try simp only [List.getElem_toArray, List.getElem_cons_zero, List.getElem_cons_succ, Act.put, List.setIfInBounds_toArray, List.set_cons_zero, List.set_cons_succ]
        refine wpAnyH_ready (rs := [7]) (by kernel_rfl) (by simp) ?_
        refine AllReadyH.cons rfl (fun K hK => ?_) AllReadyH.nil
        refine step_call rfl 32 Try.f32 _ _ rfl Try.func32 (by kernel_rfl) (by kernel_rfl) _ _ (clone5 x _ (by omega)) (by go_simp) ?_
        rintro v7 w7 ⟨rfl, ht7⟩
        have t1 := g1.drew.turn ht7 (fun h => h)
        have t3 := g3.drew.turn ht7 (fun h => h)
        have t4 := g4.drew.turn ht7 (fun h => h)
        have T1 := Lib.hid t1
        have T3 := Lib.hid t3
        have T4 := Lib.hid t4
        have T2 := Lib.hid (World.ownsRow.turn5 g2.drew ht7 (fun _ _ h => h))
        have HT7 := Lib.hid ht7
        have c7 := t1.cell 0
        simp only [List.getElem?_cons_zero] at c7
        refine hK.out _ _ ⟨t3.cell 0, t4.cell 0⟩ (fun hHeld => ?_)
        clear hK K t1 t3 t4 ht7
        try simp only [List.getElem_toArray, List.getElem_cons_zero, List.getElem_cons_succ, Act.put, List.setIfInBounds_toArray, List.set_cons_zero, List.set_cons_succ]
        refine wpAnyH_take (i := 8) (v := ?_) rfl (by kernel_rfl) (by kernel_rfl) (by kernel_rfl) (fun _ _ _ h => h) (Or.inl ⟨by rfl, ?_⟩) (by assumption) ?_
        rotate_left 1
        · intro w' hSw
          obtain ⟨y1, y2⟩ := hSw
          go_simp
          all_goals first | with_reducible rfl | (rw [if_neg (by omega)]; done) | (rw [if_neg (by omega)]; with_reducible rfl)
        try simp only [List.getElem_toArray, List.getElem_cons_zero, List.getElem_cons_succ, Act.put, List.setIfInBounds_toArray, List.set_cons_zero, List.set_cons_succ]
        refine wpAnyH_ready (rs := [9]) (by kernel_rfl) (by simp) ?_
        refine AllReadyH.cons rfl (fun K hK => ?_) AllReadyH.nil
        go_simp
        have c9 := (T1.out.alloc (.cells #[.int .i64 e, .int .i64 (IntKind.i64.wrap (q + (L.length : Int))), .bool false, .bool false, .string x] 81)).cell 0
        simp only [List.getElem?_cons_zero] at c9
        refine hK.out _ _ ⟨(T3.out.alloc _).cell 0, (T4.out.alloc _).cell 0⟩ (fun hHeld => ?_)
        clear hK K
        try simp only [List.getElem_toArray, List.getElem_cons_zero, List.getElem_cons_succ, Act.put, List.setIfInBounds_toArray, List.set_cons_zero, List.set_cons_succ]
        refine wpAnyH_ready (rs := [10]) (by kernel_rfl) (by simp) ?_
        refine AllReadyH.cons rfl (fun K hK => ?_) AllReadyH.nil
        refine step_app_slot _ rfl _ _ 54 rfl (w.heap.size + 3) 81 i0 _ Try.underlying54 hi0 hy1 hy2 hy3 rfl (.slice A L.length cap) L.length _ rfl (T2.out.alloc _) w7.heap.size 1 [.int .i64 e, .int .i64 (IntKind.i64.wrap (q + (L.length : Int))), .bool false, .bool false, .string x] rfl (Blk.new w7 81 [.int .i64 e, .int .i64 (IntKind.i64.wrap (q + (L.length : Int))), .bool false, .bool false, .string x]) rfl (by simp [Value.oneCell']) (by omega) ?_ ?_
        · have := HT7.out.size; have := T1.out.lt; simp; omega
        intro v10 w10 o10 gb10
        obtain ⟨A10, c10, rfl⟩ : ∃ A10 c10, v10 = .slice A10 (L.length + 1) c10 := by
          rcases o10.2 with ⟨_, e2⟩ | ⟨b, c, cur, e1, _⟩
          · omega
          · exact ⟨_, _, e1⟩
        have O10 := Lib.hid o10
        have TB := Lib.hid (grown_turn5 gb10)
        have D1 := Lib.hid ((T1.out.alloc (.cells #[.int .i64 e, .int .i64 (IntKind.i64.wrap (q + (L.length : Int))), .bool false, .bool false, .string x] 81)).turn TB.out (fun h => by have := World.ownsRow.base5 T2.out _ h; omega))
        have D3 := Lib.hid ((T3.out.alloc (.cells #[.int .i64 e, .int .i64 (IntKind.i64.wrap (q + (L.length : Int))), .bool false, .bool false, .string x] 81)).turn TB.out (fun h => by have := World.ownsRow.base5 T2.out _ h; omega))
        have D4 := Lib.hid ((T4.out.alloc (.cells #[.int .i64 e, .int .i64 (IntKind.i64.wrap (q + (L.length : Int))), .bool false, .bool false, .string x] 81)).turn TB.out (fun h => by have := World.ownsRow.base5 T2.out _ h; omega))
        clear o10 gb10
        have k1 := D1.out.cell 0
        have k2 := D1.out.free 0
        simp only [List.getElem?_cons_zero] at k1
        refine hK.out _ _ ⟨D3.out.cell 0, D4.out.cell 0⟩ (fun hHeld => ?_)
        clear hK K
        try simp only [List.getElem_toArray, List.getElem_cons_zero, List.getElem_cons_succ, Act.put, List.setIfInBounds_toArray, List.set_cons_zero, List.set_cons_succ]
        refine wpAnyH_ready (rs := [11]) (by kernel_rfl) (by simp) ?_
        refine AllReadyH.cons rfl (fun K hK => ?_) AllReadyH.nil
        go_simp
        have N1 := Lib.hid (D1.out.put 0 (.slice A10 (L.length + 1) c10))
        have TS := Lib.hid (Turn.refl (fun k => k = w.heap.size + 1 + 1) w10 |>.setCell (p := ⟨w.heap.size + 1 + 1, 0, none⟩) (.inl rfl) (.slice A10 (L.length + 1) c10))
        have N3 := Lib.hid (D3.out.turn TS.out (by omega))
        have N4 := Lib.hid (D4.out.turn TS.out (by omega))
        refine hK.out _ _ ⟨N3.out.cell 0, N4.out.cell 0⟩ (fun hHeld => ?_)
        clear hK K
        try simp only [List.getElem_toArray, List.getElem_cons_zero, List.getElem_cons_succ, Act.put, List.setIfInBounds_toArray, List.set_cons_zero, List.set_cons_succ]
        refine wpAnyH_done (by kernel_rfl) ?_ _
        have hE := HE.out _ _ _ HT7.out O10.out TB.out N1.out N3.out N4.out TS.out
        refine ⟨hE.1, trivial, ?_⟩
        show CutI w e q w.heap.size ((pre ++ [px]).map Pc.d) _
        rw [HLx.out]
        exact hE.2
      · refine step_call rfl 32 Try.f32 _ _ rfl Try.func32 (by kernel_rfl) (by kernel_rfl) _ _ (clone5 x _ (by omega)) (by go_simp) ?_
        rintro v7 w7 ⟨rfl, ht7⟩
        have t1 := g1.drew.turn ht7 (fun h => h)
        have t3 := g3.drew.turn ht7 (fun h => h)
        have t4 := g4.drew.turn ht7 (fun h => h)
        have T1 := Lib.hid t1
        have T3 := Lib.hid t3
        have T4 := Lib.hid t4
        have T2 := Lib.hid (World.ownsRow.turn5 g2.drew ht7 (fun _ _ h => h))
        have HT7 := Lib.hid ht7
        have c7 := t1.cell 0
        simp only [List.getElem?_cons_zero] at c7
        refine hK.out _ _ ⟨t3.cell 0, t4.cell 0⟩ (fun hHeld => ?_)
        clear hK K t1 t3 t4 ht7
        try simp only [List.getElem_toArray, List.getElem_cons_zero, List.getElem_cons_succ, Act.put, List.setIfInBounds_toArray, List.set_cons_zero, List.set_cons_succ]
        refine wpAnyH_take (i := 8) (v := ?_) rfl (by kernel_rfl) (by kernel_rfl) (by kernel_rfl) (fun _ _ _ h => h) (Or.inl ⟨by rfl, ?_⟩) (by assumption) ?_
        rotate_left 1
        · intro w' hSw
          obtain ⟨y1, y2⟩ := hSw
          go_simp
          all_goals first | with_reducible rfl | (rw [if_neg (by omega)]; done) | (rw [if_neg (by omega)]; with_reducible rfl)
        try simp only [List.getElem_toArray, List.getElem_cons_zero, List.getElem_cons_succ, Act.put, List.setIfInBounds_toArray, List.set_cons_zero, List.set_cons_succ]
        refine wpAnyH_ready (rs := [0, 9]) (by kernel_rfl) (by simp) ?_
        refine AllReadyH.cons rfl (fun K hK => ?_) (AllReadyH.cons rfl (fun K hK => ?_) AllReadyH.nil)
        · go_simp
          refine hK.out _ _ hHeld (fun hHeld => ?_)
          clear hK K
          try simp only [List.getElem_toArray, List.getElem_cons_zero, List.getElem_cons_succ, Act.put, List.setIfInBounds_toArray, List.set_cons_zero, List.set_cons_succ]
          refine wpAnyH_ready (rs := [9]) (by kernel_rfl) (by simp) ?_
          refine AllReadyH.cons rfl (fun K hK => ?_) AllReadyH.nil
          go_simp
          have c9 := (T1.out.alloc (.cells #[.int .i64 e, .int .i64 (IntKind.i64.wrap (q + (L.length : Int))), .bool false, .bool false, .string x] 81)).cell 0
          simp only [List.getElem?_cons_zero] at c9
          refine hK.out _ _ ⟨(T3.out.alloc _).cell 0, (T4.out.alloc _).cell 0⟩ (fun hHeld => ?_)
          clear hK K
          try simp only [List.getElem_toArray, List.getElem_cons_zero, List.getElem_cons_succ, Act.put, List.setIfInBounds_toArray, List.set_cons_zero, List.set_cons_succ]
          refine wpAnyH_ready (rs := [10]) (by kernel_rfl) (by simp) ?_
          refine AllReadyH.cons rfl (fun K hK => ?_) AllReadyH.nil
          refine step_app_slot _ rfl _ _ 54 rfl (w.heap.size + 3) 81 i0 _ Try.underlying54 hi0 hy1 hy2 hy3 rfl (.slice A L.length cap) L.length _ rfl (T2.out.alloc _) w7.heap.size 1 [.int .i64 e, .int .i64 (IntKind.i64.wrap (q + (L.length : Int))), .bool false, .bool false, .string x] rfl (Blk.new w7 81 [.int .i64 e, .int .i64 (IntKind.i64.wrap (q + (L.length : Int))), .bool false, .bool false, .string x]) rfl (by simp [Value.oneCell']) (by omega) ?_ ?_
          · have := HT7.out.size; have := T1.out.lt; simp; omega
          intro v10 w10 o10 gb10
          obtain ⟨A10, c10, rfl⟩ : ∃ A10 c10, v10 = .slice A10 (L.length + 1) c10 := by
            rcases o10.2 with ⟨_, e2⟩ | ⟨b, c, cur, e1, _⟩
            · omega
            · exact ⟨_, _, e1⟩
          have O10 := Lib.hid o10
          have TB := Lib.hid (grown_turn5 gb10)
          have D1 := Lib.hid ((T1.out.alloc (.cells #[.int .i64 e, .int .i64 (IntKind.i64.wrap (q + (L.length : Int))), .bool false, .bool false, .string x] 81)).turn TB.out (fun h => by have := World.ownsRow.base5 T2.out _ h; omega))
          have D3 := Lib.hid ((T3.out.alloc (.cells #[.int .i64 e, .int .i64 (IntKind.i64.wrap (q + (L.length : Int))), .bool false, .bool false, .string x] 81)).turn TB.out (fun h => by have := World.ownsRow.base5 T2.out _ h; omega))
          have D4 := Lib.hid ((T4.out.alloc (.cells #[.int .i64 e, .int .i64 (IntKind.i64.wrap (q + (L.length : Int))), .bool false, .bool false, .string x] 81)).turn TB.out (fun h => by have := World.ownsRow.base5 T2.out _ h; omega))
          clear o10 gb10
          have k1 := D1.out.cell 0
          have k2 := D1.out.free 0
          simp only [List.getElem?_cons_zero] at k1
          refine hK.out _ _ ⟨D3.out.cell 0, D4.out.cell 0⟩ (fun hHeld => ?_)
          clear hK K
          try simp only [List.getElem_toArray, List.getElem_cons_zero, List.getElem_cons_succ, Act.put, List.setIfInBounds_toArray, List.set_cons_zero, List.set_cons_succ]
          refine wpAnyH_ready (rs := [11]) (by kernel_rfl) (by simp) ?_
          refine AllReadyH.cons rfl (fun K hK => ?_) AllReadyH.nil
          go_simp
          have N1 := Lib.hid (D1.out.put 0 (.slice A10 (L.length + 1) c10))
          have TS := Lib.hid (Turn.refl (fun k => k = w.heap.size + 1 + 1) w10 |>.setCell (p := ⟨w.heap.size + 1 + 1, 0, none⟩) (.inl rfl) (.slice A10 (L.length + 1) c10))
          have N3 := Lib.hid (D3.out.turn TS.out (by omega))
          have N4 := Lib.hid (D4.out.turn TS.out (by omega))
          refine hK.out _ _ ⟨N3.out.cell 0, N4.out.cell 0⟩ (fun hHeld => ?_)
          clear hK K
          try simp only [List.getElem_toArray, List.getElem_cons_zero, List.getElem_cons_succ, Act.put, List.setIfInBounds_toArray, List.set_cons_zero, List.set_cons_succ]
          refine wpAnyH_done (by kernel_rfl) ?_ _
          have hE := HE.out _ _ _ HT7.out O10.out TB.out N1.out N3.out N4.out TS.out
          refine ⟨hE.1, trivial, ?_⟩
          show CutI w e q w.heap.size ((pre ++ [px]).map Pc.d) _
          rw [HLx.out]
          exact hE.2
        · go_simp
          have c9 := (T1.out.alloc (.cells #[.int .i64 e, .int .i64 (IntKind.i64.wrap (q + (L.length : Int))), .bool false, .bool false, .string x] 81)).cell 0
          simp only [List.getElem?_cons_zero] at c9
          refine hK.out _ _ ⟨(T3.out.alloc _).cell 0, (T4.out.alloc _).cell 0⟩ (fun hHeld => ?_)
          clear hK K
          try simp only [List.getElem_toArray, List.getElem_cons_zero, List.getElem_cons_succ, Act.put, List.setIfInBounds_toArray, List.set_cons_zero, List.set_cons_succ]
          refine wpAnyH_ready (rs := [0]) (by kernel_rfl) (by simp) ?_
          refine AllReadyH.cons rfl (fun K hK => ?_) AllReadyH.nil
          go_simp
          refine hK.out _ _ hHeld (fun hHeld => ?_)
          clear hK K
          try simp only [List.getElem_toArray, List.getElem_cons_zero, List.getElem_cons_succ, Act.put, List.setIfInBounds_toArray, List.set_cons_zero, List.set_cons_succ]
          refine wpAnyH_ready (rs := [10]) (by kernel_rfl) (by simp) ?_
          refine AllReadyH.cons rfl (fun K hK => ?_) AllReadyH.nil
          refine step_app_slot _ rfl _ _ 54 rfl (w.heap.size + 3) 81 i0 _ Try.underlying54 hi0 hy1 hy2 hy3 rfl (.slice A L.length cap) L.length _ rfl (T2.out.alloc _) w7.heap.size 1 [.int .i64 e, .int .i64 (IntKind.i64.wrap (q + (L.length : Int))), .bool false, .bool false, .string x] rfl (Blk.new w7 81 [.int .i64 e, .int .i64 (IntKind.i64.wrap (q + (L.length : Int))), .bool false, .bool false, .string x]) rfl (by simp [Value.oneCell']) (by omega) ?_ ?_
          · have := HT7.out.size; have := T1.out.lt; simp; omega
          intro v10 w10 o10 gb10
          obtain ⟨A10, c10, rfl⟩ : ∃ A10 c10, v10 = .slice A10 (L.length + 1) c10 := by
            rcases o10.2 with ⟨_, e2⟩ | ⟨b, c, cur, e1, _⟩
            · omega
            · exact ⟨_, _, e1⟩
          have O10 := Lib.hid o10
          have TB := Lib.hid (grown_turn5 gb10)
          have D1 := Lib.hid ((T1.out.alloc (.cells #[.int .i64 e, .int .i64 (IntKind.i64.wrap (q + (L.length : Int))), .bool false, .bool false, .string x] 81)).turn TB.out (fun h => by have := World.ownsRow.base5 T2.out _ h; omega))
          have D3 := Lib.hid ((T3.out.alloc (.cells #[.int .i64 e, .int .i64 (IntKind.i64.wrap (q + (L.length : Int))), .bool false, .bool false, .string x] 81)).turn TB.out (fun h => by have := World.ownsRow.base5 T2.out _ h; omega))
          have D4 := Lib.hid ((T4.out.alloc (.cells #[.int .i64 e, .int .i64 (IntKind.i64.wrap (q + (L.length : Int))), .bool false, .bool false, .string x] 81)).turn TB.out (fun h => by have := World.ownsRow.base5 T2.out _ h; omega))
          clear o10 gb10
          have k1 := D1.out.cell 0
          have k2 := D1.out.free 0
          simp only [List.getElem?_cons_zero] at k1
          refine hK.out _ _ ⟨D3.out.cell 0, D4.out.cell 0⟩ (fun hHeld => ?_)
          clear hK K
          try simp only [List.getElem_toArray, List.getElem_cons_zero, List.getElem_cons_succ, Act.put, List.setIfInBounds_toArray, List.set_cons_zero, List.set_cons_succ]
          refine wpAnyH_ready (rs := [11]) (by kernel_rfl) (by simp) ?_
          refine AllReadyH.cons rfl (fun K hK => ?_) AllReadyH.nil
          go_simp
          have N1 := Lib.hid (D1.out.put 0 (.slice A10 (L.length + 1) c10))
          have TS := Lib.hid (Turn.refl (fun k => k = w.heap.size + 1 + 1) w10 |>.setCell (p := ⟨w.heap.size + 1 + 1, 0, none⟩) (.inl rfl) (.slice A10 (L.length + 1) c10))
          have N3 := Lib.hid (D3.out.turn TS.out (by omega))
          have N4 := Lib.hid (D4.out.turn TS.out (by omega))
          refine hK.out _ _ ⟨N3.out.cell 0, N4.out.cell 0⟩ (fun hHeld => ?_)
          clear hK K
          try simp only [List.getElem_toArray, List.getElem_cons_zero, List.getElem_cons_succ, Act.put, List.setIfInBounds_toArray, List.set_cons_zero, List.set_cons_succ]
          refine wpAnyH_done (by kernel_rfl) ?_ _
          have hE := HE.out _ _ _ HT7.out O10.out TB.out N1.out N3.out N4.out TS.out
          refine ⟨hE.1, trivial, ?_⟩
          show CutI w e q w.heap.size ((pre ++ [px]).map Pc.d) _
          rw [HLx.out]
          exact hE.2
    · refine step_call rfl 32 Try.f32 _ _ rfl Try.func32 (by kernel_rfl) (by kernel_rfl) _ _ (clone5 x _ (by omega)) (by go_simp) ?_
      rintro v7 w7 ⟨rfl, ht7⟩
      have t1 := g1.drew.turn ht7 (fun h => h)
      have t3 := g3.drew.turn ht7 (fun h => h)
      have t4 := g4.drew.turn ht7 (fun h => h)
      have T1 := Lib.hid t1
      have T3 := Lib.hid t3
      have T4 := Lib.hid t4
      have T2 := Lib.hid (World.ownsRow.turn5 g2.drew ht7 (fun _ _ h => h))
      have HT7 := Lib.hid ht7
      have c7 := t1.cell 0
      simp only [List.getElem?_cons_zero] at c7
      refine hK.out _ _ ⟨t3.cell 0, t4.cell 0⟩ (fun hHeld => ?_)
      clear hK K t1 t3 t4 ht7
      try simp only [List.getElem_toArray, List.getElem_cons_zero, List.getElem_cons_succ, Act.put, List.setIfInBounds_toArray, List.set_cons_zero, List.set_cons_succ]
      refine wpAnyH_ready (rs := [0, 3]) (by kernel_rfl) (by simp) ?_
      refine AllReadyH.cons rfl (fun K hK => ?_) (AllReadyH.cons rfl (fun K hK => ?_) AllReadyH.nil)
      · go_simp
        refine hK.out _ _ hHeld (fun hHeld => ?_)
        clear hK K
        try simp only [List.getElem_toArray, List.getElem_cons_zero, List.getElem_cons_succ, Act.put, List.setIfInBounds_toArray, List.set_cons_zero, List.set_cons_succ]
        refine wpAnyH_ready (rs := [3]) (by kernel_rfl) (by simp) ?_
        refine AllReadyH.cons rfl (fun K hK => ?_) AllReadyH.nil
        go_simp
        refine hK.out _ _ hHeld (fun hHeld => ?_)
        clear hK K
        try simp only [List.getElem_toArray, List.getElem_cons_zero, List.getElem_cons_succ, Act.put, List.setIfInBounds_toArray, List.set_cons_zero, List.set_cons_succ]
        refine wpAnyH_take (i := 4) (v := ?_) rfl (by kernel_rfl) (by kernel_rfl) (by kernel_rfl) (fun _ _ _ h => h) (Or.inl ⟨by rfl, ?_⟩) (by assumption) ?_
        rotate_left 1
        · intro w' hSw
          obtain ⟨y1, y2⟩ := hSw
          go_simp
          all_goals first | with_reducible rfl | (rw [if_neg (by omega)]; done) | (rw [if_neg (by omega)]; with_reducible rfl)
        try simp only [List.getElem_toArray, List.getElem_cons_zero, List.getElem_cons_succ, Act.put, List.setIfInBounds_toArray, List.set_cons_zero, List.set_cons_succ]
        refine wpAnyH_take (i := 5) (v := ?_) rfl (by kernel_rfl) (by kernel_rfl) (by kernel_rfl) (fun _ _ _ h => h) (Or.inl ⟨by rfl, ?_⟩) (by assumption) ?_
        rotate_left 1
        · intro w' hSw
          obtain ⟨y1, y2⟩ := hSw
          go_simp
          all_goals first | with_reducible rfl | (rw [if_neg (by omega)]; done) | (rw [if_neg (by omega)]; with_reducible rfl)
        try simp only [List.getElem_toArray, List.getElem_cons_zero, List.getElem_cons_succ, Act.put, List.setIfInBounds_toArray, List.set_cons_zero, List.set_cons_succ]
        refine wpAnyH_take (i := 8) (v := ?_) rfl (by kernel_rfl) (by kernel_rfl) (by kernel_rfl) (fun _ _ _ h => h) (Or.inl ⟨by rfl, ?_⟩) (by assumption) ?_
        rotate_left 1
        · intro w' hSw
          obtain ⟨y1, y2⟩ := hSw
          go_simp
          all_goals first | with_reducible rfl | (rw [if_neg (by omega)]; done) | (rw [if_neg (by omega)]; with_reducible rfl)
        try simp only [List.getElem_toArray, List.getElem_cons_zero, List.getElem_cons_succ, Act.put, List.setIfInBounds_toArray, List.set_cons_zero, List.set_cons_succ]
        refine wpAnyH_ready (rs := [9]) (by kernel_rfl) (by simp) ?_
        refine AllReadyH.cons rfl (fun K hK => ?_) AllReadyH.nil
        go_simp
        have c9 := (T1.out.alloc (.cells #[.int .i64 e, .int .i64 (IntKind.i64.wrap (q + (L.length : Int))), .bool false, .bool false, .string x] 81)).cell 0
        simp only [List.getElem?_cons_zero] at c9
        refine hK.out _ _ ⟨(T3.out.alloc _).cell 0, (T4.out.alloc _).cell 0⟩ (fun hHeld => ?_)
        clear hK K
        try simp only [List.getElem_toArray, List.getElem_cons_zero, List.getElem_cons_succ, Act.put, List.setIfInBounds_toArray, List.set_cons_zero, List.set_cons_succ]
        refine wpAnyH_ready (rs := [10]) (by kernel_rfl) (by simp) ?_
        refine AllReadyH.cons rfl (fun K hK => ?_) AllReadyH.nil
        refine step_app_slot _ rfl _ _ 54 rfl (w.heap.size + 3) 81 i0 _ Try.underlying54 hi0 hy1 hy2 hy3 rfl (.slice A L.length cap) L.length _ rfl (T2.out.alloc _) w7.heap.size 1 [.int .i64 e, .int .i64 (IntKind.i64.wrap (q + (L.length : Int))), .bool false, .bool false, .string x] rfl (Blk.new w7 81 [.int .i64 e, .int .i64 (IntKind.i64.wrap (q + (L.length : Int))), .bool false, .bool false, .string x]) rfl (by simp [Value.oneCell']) (by omega) ?_ ?_
        · have := HT7.out.size; have := T1.out.lt; simp; omega
        intro v10 w10 o10 gb10
        obtain ⟨A10, c10, rfl⟩ : ∃ A10 c10, v10 = .slice A10 (L.length + 1) c10 := by
          rcases o10.2 with ⟨_, e2⟩ | ⟨b, c, cur, e1, _⟩
          · omega
          · exact ⟨_, _, e1⟩
        have O10 := Lib.hid o10
        have TB := Lib.hid (grown_turn5 gb10)
        have D1 := Lib.hid ((T1.out.alloc (.cells #[.int .i64 e, .int .i64 (IntKind.i64.wrap (q + (L.length : Int))), .bool false, .bool false, .string x] 81)).turn TB.out (fun h => by have := World.ownsRow.base5 T2.out _ h; omega))
        have D3 := Lib.hid ((T3.out.alloc (.cells #[.int .i64 e, .int .i64 (IntKind.i64.wrap (q + (L.length : Int))), .bool false, .bool false, .string x] 81)).turn TB.out (fun h => by have := World.ownsRow.base5 T2.out _ h; omega))
        have D4 := Lib.hid ((T4.out.alloc (.cells #[.int .i64 e, .int .i64 (IntKind.i64.wrap (q + (L.length : Int))), .bool false, .bool false, .string x] 81)).turn TB.out (fun h => by have := World.ownsRow.base5 T2.out _ h; omega))
        clear o10 gb10
        have k1 := D1.out.cell 0
        have k2 := D1.out.free 0
        simp only [List.getElem?_cons_zero] at k1
        refine hK.out _ _ ⟨D3.out.cell 0, D4.out.cell 0⟩ (fun hHeld => ?_)
        clear hK K
        try simp only [List.getElem_toArray, List.getElem_cons_zero, List.getElem_cons_succ, Act.put, List.setIfInBounds_toArray, List.set_cons_zero, List.set_cons_succ]
        refine wpAnyH_ready (rs := [11]) (by kernel_rfl) (by simp) ?_
        refine AllReadyH.cons rfl (fun K hK => ?_) AllReadyH.nil
        go_simp
        have N1 := Lib.hid (D1.out.put 0 (.slice A10 (L.length + 1) c10))
        have TS := Lib.hid (Turn.refl (fun k => k = w.heap.size + 1 + 1) w10 |>.setCell (p := ⟨w.heap.size + 1 + 1, 0, none⟩) (.inl rfl) (.slice A10 (L.length + 1) c10))
        have N3 := Lib.hid (D3.out.turn TS.out (by omega))
        have N4 := Lib.hid (D4.out.turn TS.out (by omega))
        refine hK.out _ _ ⟨N3.out.cell 0, N4.out.cell 0⟩ (fun hHeld => ?_)
        clear hK K
        try simp only [List.getElem_toArray, List.getElem_cons_zero, List.getElem_cons_succ, Act.put, List.setIfInBounds_toArray, List.set_cons_zero, List.set_cons_succ]
        refine wpAnyH_done (by kernel_rfl) ?_ _
        have hE := HE.out _ _ _ HT7.out O10.out TB.out N1.out N3.out N4.out TS.out
        refine ⟨hE.1, trivial, ?_⟩
        show CutI w e q w.heap.size ((pre ++ [px]).map Pc.d) _
        rw [HLx.out]
        exact hE.2
      · go_simp
        refine hK.out _ _ hHeld (fun hHeld => ?_)
        clear hK K
        try simp only [List.getElem_toArray, List.getElem_cons_zero, List.getElem_cons_succ, Act.put, List.setIfInBounds_toArray, List.set_cons_zero, List.set_cons_succ]
        refine wpAnyH_take (i := 4) (v := ?_) rfl (by kernel_rfl) (by kernel_rfl) (by kernel_rfl) (fun _ _ _ h => h) (Or.inl ⟨by rfl, ?_⟩) (by assumption) ?_
        rotate_left 1
        · intro w' hSw
          obtain ⟨y1, y2⟩ := hSw
          go_simp
          all_goals first | with_reducible rfl | (rw [if_neg (by omega)]; done) | (rw [if_neg (by omega)]; with_reducible rfl)
        try simp only [List.getElem_toArray, List.getElem_cons_zero, List.getElem_cons_succ, Act.put, List.setIfInBounds_toArray, List.set_cons_zero, List.set_cons_succ]
        refine wpAnyH_take (i := 5) (v := ?_) rfl (by kernel_rfl) (by kernel_rfl) (by kernel_rfl) (fun _ _ _ h => h) (Or.inl ⟨by rfl, ?_⟩) (by assumption) ?_
        rotate_left 1
        · intro w' hSw
          obtain ⟨y1, y2⟩ := hSw
          go_simp
          all_goals first | with_reducible rfl | (rw [if_neg (by omega)]; done) | (rw [if_neg (by omega)]; with_reducible rfl)
        try simp only [List.getElem_toArray, List.getElem_cons_zero, List.getElem_cons_succ, Act.put, List.setIfInBounds_toArray, List.set_cons_zero, List.set_cons_succ]
        refine wpAnyH_take (i := 8) (v := ?_) rfl (by kernel_rfl) (by kernel_rfl) (by kernel_rfl) (fun _ _ _ h => h) (Or.inl ⟨by rfl, ?_⟩) (by assumption) ?_
        rotate_left 1
        · intro w' hSw
          obtain ⟨y1, y2⟩ := hSw
          go_simp
          all_goals first | with_reducible rfl | (rw [if_neg (by omega)]; done) | (rw [if_neg (by omega)]; with_reducible rfl)
        try simp only [List.getElem_toArray, List.getElem_cons_zero, List.getElem_cons_succ, Act.put, List.setIfInBounds_toArray, List.set_cons_zero, List.set_cons_succ]
        refine wpAnyH_ready (rs := [0, 9]) (by kernel_rfl) (by simp) ?_
        refine AllReadyH.cons rfl (fun K hK => ?_) (AllReadyH.cons rfl (fun K hK => ?_) AllReadyH.nil)
        · go_simp
          refine hK.out _ _ hHeld (fun hHeld => ?_)
          clear hK K
          try simp only [List.getElem_toArray, List.getElem_cons_zero, List.getElem_cons_succ, Act.put, List.setIfInBounds_toArray, List.set_cons_zero, List.set_cons_succ]
          refine wpAnyH_ready (rs := [9]) (by kernel_rfl) (by simp) ?_
          refine AllReadyH.cons rfl (fun K hK => ?_) AllReadyH.nil
          go_simp
          have c9 := (T1.out.alloc (.cells #[.int .i64 e, .int .i64 (IntKind.i64.wrap (q + (L.length : Int))), .bool false, .bool false, .string x] 81)).cell 0
          simp only [List.getElem?_cons_zero] at c9
          refine hK.out _ _ ⟨(T3.out.alloc _).cell 0, (T4.out.alloc _).cell 0⟩ (fun hHeld => ?_)
          clear hK K
          try simp only [List.getElem_toArray, List.getElem_cons_zero, List.getElem_cons_succ, Act.put, List.setIfInBounds_toArray, List.set_cons_zero, List.set_cons_succ]
          refine wpAnyH_ready (rs := [10]) (by kernel_rfl) (by simp) ?_
          refine AllReadyH.cons rfl (fun K hK => ?_) AllReadyH.nil
          refine step_app_slot _ rfl _ _ 54 rfl (w.heap.size + 3) 81 i0 _ Try.underlying54 hi0 hy1 hy2 hy3 rfl (.slice A L.length cap) L.length _ rfl (T2.out.alloc _) w7.heap.size 1 [.int .i64 e, .int .i64 (IntKind.i64.wrap (q + (L.length : Int))), .bool false, .bool false, .string x] rfl (Blk.new w7 81 [.int .i64 e, .int .i64 (IntKind.i64.wrap (q + (L.length : Int))), .bool false, .bool false, .string x]) rfl (by simp [Value.oneCell']) (by omega) ?_ ?_
          · have := HT7.out.size; have := T1.out.lt; simp; omega
          intro v10 w10 o10 gb10
          obtain ⟨A10, c10, rfl⟩ : ∃ A10 c10, v10 = .slice A10 (L.length + 1) c10 := by
            rcases o10.2 with ⟨_, e2⟩ | ⟨b, c, cur, e1, _⟩
            · omega
            · exact ⟨_, _, e1⟩
          have O10 := Lib.hid o10
          have TB := Lib.hid (grown_turn5 gb10)
          have D1 := Lib.hid ((T1.out.alloc (.cells #[.int .i64 e, .int .i64 (IntKind.i64.wrap (q + (L.length : Int))), .bool false, .bool false, .string x] 81)).turn TB.out (fun h => by have := World.ownsRow.base5 T2.out _ h; omega))
          have D3 := Lib.hid ((T3.out.alloc (.cells #[.int .i64 e, .int .i64 (IntKind.i64.wrap (q + (L.length : Int))), .bool false, .bool false, .string x] 81)).turn TB.out (fun h => by have := World.ownsRow.base5 T2.out _ h; omega))
          have D4 := Lib.hid ((T4.out.alloc (.cells #[.int .i64 e, .int .i64 (IntKind.i64.wrap (q + (L.length : Int))), .bool false, .bool false, .string x] 81)).turn TB.out (fun h => by have := World.ownsRow.base5 T2.out _ h; omega))
          clear o10 gb10
          have k1 := D1.out.cell 0
          have k2 := D1.out.free 0
          simp only [List.getElem?_cons_zero] at k1
          refine hK.out _ _ ⟨D3.out.cell 0, D4.out.cell 0⟩ (fun hHeld => ?_)
          clear hK K
          try simp only [List.getElem_toArray, List.getElem_cons_zero, List.getElem_cons_succ, Act.put, List.setIfInBounds_toArray, List.set_cons_zero, List.set_cons_succ]
          refine wpAnyH_ready (rs := [11]) (by kernel_rfl) (by simp) ?_
          refine AllReadyH.cons rfl (fun K hK => ?_) AllReadyH.nil
          go_simp
          have N1 := Lib.hid (D1.out.put 0 (.slice A10 (L.length + 1) c10))
          have TS := Lib.hid (Turn.refl (fun k => k = w.heap.size + 1 + 1) w10 |>.setCell (p := ⟨w.heap.size + 1 + 1, 0, none⟩) (.inl rfl) (.slice A10 (L.length + 1) c10))
          have N3 := Lib.hid (D3.out.turn TS.out (by omega))
          have N4 := Lib.hid (D4.out.turn TS.out (by omega))
          refine hK.out _ _ ⟨N3.out.cell 0, N4.out.cell 0⟩ (fun hHeld => ?_)
          clear hK K
          try simp only [List.getElem_toArray, List.getElem_cons_zero, List.getElem_cons_succ, Act.put, List.setIfInBounds_toArray, List.set_cons_zero, List.set_cons_succ]
          refine wpAnyH_done (by kernel_rfl) ?_ _
          have hE := HE.out _ _ _ HT7.out O10.out TB.out N1.out N3.out N4.out TS.out
          refine ⟨hE.1, trivial, ?_⟩
          show CutI w e q w.heap.size ((pre ++ [px]).map Pc.d) _
          rw [HLx.out]
          exact hE.2
        · go_simp
          have c9 := (T1.out.alloc (.cells #[.int .i64 e, .int .i64 (IntKind.i64.wrap (q + (L.length : Int))), .bool false, .bool false, .string x] 81)).cell 0
          simp only [List.getElem?_cons_zero] at c9
          refine hK.out _ _ ⟨(T3.out.alloc _).cell 0, (T4.out.alloc _).cell 0⟩ (fun hHeld => ?_)
          clear hK K
          try simp only [List.getElem_toArray, List.getElem_cons_zero, List.getElem_cons_succ, Act.put, List.setIfInBounds_toArray, List.set_cons_zero, List.set_cons_succ]
          refine wpAnyH_ready (rs := [0]) (by kernel_rfl) (by simp) ?_
          refine AllReadyH.cons rfl (fun K hK => ?_) AllReadyH.nil
          go_simp
          refine hK.out _ _ hHeld (fun hHeld => ?_)
          clear hK K
          try simp only [List.getElem_toArray, List.getElem_cons_zero, List.getElem_cons_succ, Act.put, List.setIfInBounds_toArray, List.set_cons_zero, List.set_cons_succ]
          refine wpAnyH_ready (rs := [10]) (by kernel_rfl) (by simp) ?_
          refine AllReadyH.cons rfl (fun K hK => ?_) AllReadyH.nil
          refine step_app_slot _ rfl _ _ 54 rfl (w.heap.size + 3) 81 i0 _ Try.underlying54 hi0 hy1 hy2 hy3 rfl (.slice A L.length cap) L.length _ rfl (T2.out.alloc _) w7.heap.size 1 [.int .i64 e, .int .i64 (IntKind.i64.wrap (q + (L.length : Int))), .bool false, .bool false, .string x] rfl (Blk.new w7 81 [.int .i64 e, .int .i64 (IntKind.i64.wrap (q + (L.length : Int))), .bool false, .bool false, .string x]) rfl (by simp [Value.oneCell']) (by omega) ?_ ?_
          · have := HT7.out.size; have := T1.out.lt; simp; omega
          intro v10 w10 o10 gb10
          obtain ⟨A10, c10, rfl⟩ : ∃ A10 c10, v10 = .slice A10 (L.length + 1) c10 := by
            rcases o10.2 with ⟨_, e2⟩ | ⟨b, c, cur, e1, _⟩
            · omega
            · exact ⟨_, _, e1⟩
          have O10 := Lib.hid o10
          have TB := Lib.hid (grown_turn5 gb10)
          have D1 := Lib.hid ((T1.out.alloc (.cells #[.int .i64 e, .int .i64 (IntKind.i64.wrap (q + (L.length : Int))), .bool false, .bool false, .string x] 81)).turn TB.out (fun h => by have := World.ownsRow.base5 T2.out _ h; omega))
          have D3 := Lib.hid ((T3.out.alloc (.cells #[.int .i64 e, .int .i64 (IntKind.i64.wrap (q + (L.length : Int))), .bool false, .bool false, .string x] 81)).turn TB.out (fun h => by have := World.ownsRow.base5 T2.out _ h; omega))
          have D4 := Lib.hid ((T4.out.alloc (.cells #[.int .i64 e, .int .i64 (IntKind.i64.wrap (q + (L.length : Int))), .bool false, .bool false, .string x] 81)).turn TB.out (fun h => by have := World.ownsRow.base5 T2.out _ h; omega))
          clear o10 gb10
          have k1 := D1.out.cell 0
          have k2 := D1.out.free 0
          simp only [List.getElem?_cons_zero] at k1
          refine hK.out _ _ ⟨D3.out.cell 0, D4.out.cell 0⟩ (fun hHeld => ?_)
          clear hK K
          try simp only [List.getElem_toArray, List.getElem_cons_zero, List.getElem_cons_succ, Act.put, List.setIfInBounds_toArray, List.set_cons_zero, List.set_cons_succ]
          refine wpAnyH_ready (rs := [11]) (by kernel_rfl) (by simp) ?_
          refine AllReadyH.cons rfl (fun K hK => ?_) AllReadyH.nil
          go_simp
          have N1 := Lib.hid (D1.out.put 0 (.slice A10 (L.length + 1) c10))
          have TS := Lib.hid (Turn.refl (fun k => k = w.heap.size + 1 + 1) w10 |>.setCell (p := ⟨w.heap.size + 1 + 1, 0, none⟩) (.inl rfl) (.slice A10 (L.length + 1) c10))
          have N3 := Lib.hid (D3.out.turn TS.out (by omega))
          have N4 := Lib.hid (D4.out.turn TS.out (by omega))
          refine hK.out _ _ ⟨N3.out.cell 0, N4.out.cell 0⟩ (fun hHeld => ?_)
          clear hK K
          try simp only [List.getElem_toArray, List.getElem_cons_zero, List.getElem_cons_succ, Act.put, List.setIfInBounds_toArray, List.set_cons_zero, List.set_cons_succ]
          refine wpAnyH_done (by kernel_rfl) ?_ _
          have hE := HE.out _ _ _ HT7.out O10.out TB.out N1.out N3.out N4.out TS.out
          refine ⟨hE.1, trivial, ?_⟩
          show CutI w e q w.heap.size ((pre ++ [px]).map Pc.d) _
          rw [HLx.out]
          exact hE.2
  case done =>
    intro D xs W hD hxs hI hK
    rw [hxs] at hI
    obtain ⟨v, g1, g2, g3, g4, g5⟩ := hI
    have hp := pcs5_pos S
    have hpl : (pcs5 S).length ≤ 200 := by have := pcs5_len S.size S rfl; omega
    obtain ⟨b, cap, cur, rfl, hb, hbh, hn1, hn2, hn3, hn4⟩ : ∃ b cap cur, v = .slice (some ⟨b, 0, none⟩) (pcs5 S).length cap ∧ w.heap.size + 3 ≤ b ∧ W.heap[b]? = some (.cells cur 81 (0, 0)) ∧ (pcs5 S).length ≤ cap ∧ cap ≤ maxLen ∧ cur.size = cap * 5 ∧ cur.toList.take ((pcs5 S).length * 5) = (raw5 e q (pcs5 S)).flatMap scells := by
      rcases g2.2 with ⟨_, h0⟩ | ⟨b, c, cur, h1, h2, h3, h4, h5, h6, h7⟩
      · omega
      · exact ⟨b, c, cur, h1, h2, h3, h4, h5, h6, h7⟩
    have hwr := wrap_of (((pcs5 S).length : Int) - 1) (by omega) (by omega)
    have k1 := g1.cell 0
    simp only [List.getElem?_cons_zero] at k1
    have hrl : (raw5 e q (pcs5 S)).length = (pcs5 S).length := len_raw5 _ _ _
    obtain ⟨R, hR⟩ : ∃ R, raw5 e q (pcs5 S) = R := ⟨_, rfl⟩
    rw [hR] at hn4 hrl g2
    generalize (pcs5 S).length = N at *
    obtain ⟨s0, hs0⟩ : ∃ s0, R[0]? = some s0 := ⟨_, List.getElem?_eq_getElem (by omega)⟩
    obtain ⟨s1, hs1⟩ : ∃ s1, R[N - 1]? = some s1 := ⟨_, List.getElem?_eq_getElem (by omega)⟩
    have a0 := row5_cell hbh hn4 hrl 0 s0 hs0 0 (by decide)
    have a1 := row5_cell hbh hn4 hrl 0 s0 hs0 1 (by decide)
    have a2 := row5_cell hbh hn4 hrl 0 s0 hs0 2 (by decide)
    have a3 := row5_cell hbh hn4 hrl 0 s0 hs0 3 (by decide)
    have a4 := row5_cell hbh hn4 hrl 0 s0 hs0 4 (by decide)
    have b0 := row5_cell hbh hn4 hrl (N - 1) s1 hs1 0 (by decide)
    have b1 := row5_cell hbh hn4 hrl (N - 1) s1 hs1 1 (by decide)
    have b2 := row5_cell hbh hn4 hrl (N - 1) s1 hs1 2 (by decide)
    have b3 := row5_cell hbh hn4 hrl (N - 1) s1 hs1 3 (by decide)
    have b4 := row5_cell hbh hn4 hrl (N - 1) s1 hs1 4 (by decide)
    simp only [scells, List.getElem?_cons_zero, List.getElem?_cons_succ, Nat.zero_mul, Nat.zero_add, Nat.add_zero] at a0 a1 a2 a3 a4 b0 b1 b2 b3 b4
    have hi0 : (0 : Int) < (N : Int) := by omega
    have hit : ((N : Int) - 1).toNat = N - 1 := by omega
    have hi3 : (1 : Int) ≤ (N : Int) := by omega
    have hi4 : 1 ≤ N := hp
    have hi1 : (0 : Int) ≤ (N : Int) - 1 := by omega
    have hi2 : (N : Int) - 1 < (N : Int) := by omega
    have z1 : w.heap.size + 1 + 1 < W.heap.size := g1.lt
    have z2 : b < W.heap.size := (Array.getElem?_eq_some_iff.1 hbh).1
    clear hxs
    have HG5 := Lib.hid g5
    clear g5
    have z3 : D < W.heap.size := (Array.getElem?_eq_some_iff.1 hK).1
    have HKD := Lib.hid hK
    have HW0 := Lib.hid (And.intro hD B0.out.2)
    cases hr0 : r5 s0
    · have HC0 : Hid (∀ W, Calls Try.prog 41 #[stv s0] W fun e w' => e = .returned (.int .i64 2) ∧ w' = W.alloc (sbox s0)) := Lib.hid (fun W => by have := check5 s0 W; rw [hr0] at this; exact this)
      have HOK : Hid (ok5 R = false) := Lib.hid (by simp [ok5, hs0, hr0])
      unfold stv sbox at HC0
      clear hr0
      gi_wp2_with fail
      refine ⟨trivial, ?_⟩
      gi_at_call 41
      refine (callsIn_wide.2 (HC0.out _)).mono ?_
      rintro e8 w8 ⟨rfl, rfl⟩
      gi_wp2_with fail
      refine ⟨trivial, ?_⟩
      gi_wp2_with fail
      refine ret_mark (D := D) ((Below.heap_alloc _ _ _ (by omega)).trans HKD.out) rfl (results_tmp2 (t := 6) (u := 7) (by kernel_rfl) _ _ _) ?_
      show CutPost w (raw5 e q (pcs5 S)) _ _
      rw [hR]
      refine ⟨(HG5.out.alloc (by omega) _).trans ((put_turn5 _ D _).below (by simp; omega) (fun k h => by have := HW0.out; omega)), .inl ⟨HOK.out, rfl⟩⟩
    · have HC0 : Hid (∀ W, Calls Try.prog 41 #[stv s0] W fun e w' => e = .returned (.int .i64 0) ∧ w' = W.alloc (sbox s0)) := Lib.hid (fun W => by have := check5 s0 W; rw [hr0] at this; exact this)
      unfold stv sbox at HC0
      cases hr1 : r5 s1
      · have HC1 : Hid (∀ W, Calls Try.prog 41 #[stv s1] W fun e w' => e = .returned (.int .i64 2) ∧ w' = W.alloc (sbox s1)) := Lib.hid (fun W => by have := check5 s1 W; rw [hr1] at this; exact this)
        have HOK : Hid (ok5 R = false) := Lib.hid (by simp [ok5, hs0, hr0, hrl, hs1, hr1])
        unfold stv sbox at HC1
        clear hr0 hr1
        gi_wp2_with fail
        refine ⟨trivial, ?_⟩
        gi_at_call 41
        refine (callsIn_wide.2 (HC0.out _)).mono ?_
        rintro e8 w8 ⟨rfl, rfl⟩
        gi_wp2_with fail
        refine ⟨trivial, ?_⟩
        gi_at_call 41
        refine (callsIn_wide.2 (HC1.out _)).mono ?_
        rintro e9 w9 ⟨rfl, rfl⟩
        gi_wp2_with fail
        refine ret_mark (D := D) ((Below.heap_alloc _ _ _ (by simp; omega)).trans ((Below.heap_alloc _ _ _ (by omega)).trans HKD.out)) rfl (results_tmp2 (t := 6) (u := 7) (by kernel_rfl) _ _ _) ?_
        show CutPost w (raw5 e q (pcs5 S)) _ _
        rw [hR]
        refine ⟨((HG5.out.alloc (by omega) _).alloc (by simp; omega) _).trans ((put_turn5 _ D _).below (by simp; omega) (fun k h => by have := HW0.out; omega)), .inl ⟨HOK.out, rfl⟩⟩
      · have HC1 : Hid (∀ W, Calls Try.prog 41 #[stv s1] W fun e w' => e = .returned (.int .i64 0) ∧ w' = W.alloc (sbox s1)) := Lib.hid (fun W => by have := check5 s1 W; rw [hr1] at this; exact this)
        have HOK : Hid (ok5 R = true) := Lib.hid (by simp [ok5, hs0, hr0, hrl, hs1, hr1])
        unfold stv sbox at HC1
        gi_wp2_with fail
        refine ⟨trivial, ?_⟩
        gi_at_call 41
        refine (callsIn_wide.2 (HC0.out _)).mono ?_
        rintro e8 w8 ⟨rfl, rfl⟩
        gi_wp2_with fail
        refine ⟨trivial, ?_⟩
        gi_at_call 41
        refine (callsIn_wide.2 (HC1.out _)).mono ?_
        rintro e9 w9 ⟨rfl, rfl⟩
        gi_wp2_with fail
        refine wpIn_wide.2 ?_
        obtain ⟨W2, hW2⟩ : ∃ W2, (W.alloc (.cells #[.int .i64 s0.e, .int .i64 s0.q, .bool s0.f, .bool s0.z, .string s0.d] 81)).alloc (.cells #[.int .i64 s1.e, .int .i64 s1.q, .bool s1.f, .bool s1.z, .string s1.d] 81) = W2 := ⟨_, rfl⟩
        have hB : Blk W b 81 cur.toList := by unfold Blk; simpa using hbh
        have e2 : cur.toList[2]? = some (.bool s0.f) := (hB.cell 2).symm.trans a2
        have e3 : cur.toList[(N - 1) * 5 + 3]? = some (.bool s1.z) := (hB.cell _).symm.trans b3
        have B2 := Lib.hid (hW2 ▸ (hB.alloc _).alloc _ : Blk W2 b 81 cur.toList)
        have G2 := Lib.hid (hW2 ▸ (g1.alloc _).alloc _ : Blk W2 (w.heap.size + 2) 54 [.slice (some ⟨b, 0, none⟩) N cap])
        have KD : Hid (W2.heap[D]? = some (.deferred (some []))) := Lib.hid (hW2 ▸ (Below.heap_alloc _ _ _ (by simp; omega)).trans ((Below.heap_alloc _ _ _ (by omega)).trans HKD.out))
        have HB := Lib.hid (hW2 ▸ (HG5.out.alloc (by omega) _).alloc (by simp; omega) _ : Below w.heap.size w W2)
        have HNE : Hid (D ≠ b ∧ b ≠ w.heap.size + 2 ∧ w.heap.size + 3 ≤ b) := Lib.hid ⟨fun h => (by rw [h] at hK; rw [hK] at hbh; cases hbh), by omega, hb⟩
        have HN := Lib.hid (And.intro hn4 (And.intro hn1 (And.intro hn2 (And.intro hn3 hrl))))
        have HR := Lib.hid hR
        clear hbh hn4 hn1 hn2 hn3 a0 a1 a2 a3 a4 b0 b1 b2 b3 b4 k1 hB hK
        rw [hW2]
        clear hW2
        refine wp_region_noPanic ?_
        refine wp_region_held_drew (S := fun X => X.cell? ⟨w.heap.size + 1 + 1, 0, none⟩ = some (.slice (some ⟨b, 0, none⟩) N cap)) (by kernel_rfl) (G2.out.drew.cell 0) (fun hHeld => ?_)
        refine wpAnyH_take (i := 0) (v := ?_) rfl (by kernel_rfl) (by kernel_rfl) (by kernel_rfl) (fun _ _ _ h => h) (Or.inl ⟨by rfl, ?_⟩) (by assumption) ?_
        rotate_left 1
        · intro w' hSw
          go_simp
          all_goals first | with_reducible rfl | (rw [if_neg (by omega)]; done) | (rw [if_neg (by omega)]; with_reducible rfl)
        try simp only [List.getElem_toArray, List.getElem_cons_zero, Act.put, List.setIfInBounds_toArray, List.set_cons_zero, List.set_cons_succ]
        refine wpAnyH_take (i := 1) (v := ?_) rfl (by kernel_rfl) (by kernel_rfl) (by kernel_rfl) (fun _ _ _ h => h) (Or.inl ⟨by rfl, ?_⟩) (by assumption) ?_
        rotate_left 1
        · intro w' hSw
          go_simp
          all_goals first | with_reducible rfl | (rw [if_neg (by omega)]; done) | (rw [if_neg (by omega)]; with_reducible rfl)
        try simp only [List.getElem_toArray, List.getElem_cons_zero, List.getElem_cons_succ, Act.put, List.setIfInBounds_toArray, List.set_cons_zero, List.set_cons_succ]
        refine wpAnyH_take (i := 2) (v := ?_) rfl (by kernel_rfl) (by kernel_rfl) (by kernel_rfl) (fun _ _ _ h => h) (Or.inl ⟨by rfl, ?_⟩) (by assumption) ?_
        rotate_left 1
        · intro w' hSw
          go_simp
          all_goals first | with_reducible rfl | (rw [if_neg (by omega)]; done) | (rw [if_neg (by omega)]; with_reducible rfl)
        try simp only [List.getElem_toArray, List.getElem_cons_zero, List.getElem_cons_succ, Act.put, List.setIfInBounds_toArray, List.set_cons_zero, List.set_cons_succ]
        refine wpAnyH_take (i := 3) (v := ?_) rfl (by kernel_rfl) (by kernel_rfl) (by kernel_rfl) (fun _ _ _ h => h) (Or.inl ⟨by rfl, ?_⟩) (by assumption) ?_
        rotate_left 1
        · intro w' hSw
          go_simp
          all_goals first | with_reducible rfl | (rw [if_neg (by omega)]; done) | (rw [if_neg (by omega)]; with_reducible rfl)
        try simp only [List.getElem_toArray, List.getElem_cons_zero, List.getElem_cons_succ, Act.put, List.setIfInBounds_toArray, List.set_cons_zero, List.set_cons_succ]
        refine wpAnyH_take (i := 4) (v := ?_) rfl (by kernel_rfl) (by kernel_rfl) (by kernel_rfl) (fun _ _ _ h => h) (Or.inl ⟨by rfl, ?_⟩) (by assumption) ?_
        rotate_left 1
        · intro w' hSw
          go_simp
          all_goals first | with_reducible rfl | (rw [if_neg (by omega)]; done) | (rw [if_neg (by omega)]; with_reducible rfl)
        try simp only [List.getElem_toArray, List.getElem_cons_zero, List.getElem_cons_succ, Act.put, List.setIfInBounds_toArray, List.set_cons_zero, List.set_cons_succ]
        refine wpAnyH_ready (rs := [5]) (by kernel_rfl) (by simp) ?_
        refine AllReadyH.cons rfl (fun K hK => ?_) AllReadyH.nil
        have c5 := (B2.out.drew.cell 2).trans e2
        have f5 := B2.out.drew.free 2
        go_simp
        have TS := Lib.hid ((Turn.refl (fun k => k = b) W2.drew).setCell (p := ⟨b, 2, none⟩) (.inl rfl) (.bool true))
        have B3 := Lib.hid (B2.out.drew.put 2 (.bool true))
        have G3 := Lib.hid (G2.out.drew.turn TS.out (fun h => HNE.out.2.1 h.symm))
        refine hK.out _ _ (G3.out.cell 0) (fun hHeld => ?_)
        clear hK K c5 f5
        try simp only [List.getElem_toArray, List.getElem_cons_zero, List.getElem_cons_succ, Act.put, List.setIfInBounds_toArray, List.set_cons_zero, List.set_cons_succ]
        refine wpAnyH_take (i := 6) (v := ?_) rfl (by kernel_rfl) (by kernel_rfl) (by kernel_rfl) (fun _ _ _ h => h) (Or.inl ⟨by rfl, ?_⟩) (by assumption) ?_
        rotate_left 1
        · intro w' hSw
          go_simp
          all_goals first | with_reducible rfl | (rw [if_pos (by omega), hit]; simp only [Nat.zero_add]; with_reducible rfl) | (rw [if_pos ⟨hi1, hi2⟩]; trace_state; with_reducible rfl) | (rw [if_neg (by omega)]; done) | (rw [if_neg (by omega)]; with_reducible rfl)
        try simp only [List.getElem_toArray, List.getElem_cons_zero, List.getElem_cons_succ, Act.put, List.setIfInBounds_toArray, List.set_cons_zero, List.set_cons_succ]
        refine wpAnyH_take (i := 7) (v := ?_) rfl (by kernel_rfl) (by kernel_rfl) (by kernel_rfl) (fun _ _ _ h => h) (Or.inl ⟨by rfl, ?_⟩) (by assumption) ?_
        rotate_left 1
        · intro w' hSw
          go_simp
          all_goals first | with_reducible rfl | (rw [if_neg (by omega)]; done) | (rw [if_neg (by omega)]; with_reducible rfl)
        try simp only [List.getElem_toArray, List.getElem_cons_zero, List.getElem_cons_succ, Act.put, List.setIfInBounds_toArray, List.set_cons_zero, List.set_cons_succ]
        refine wpAnyH_ready (rs := [8]) (by kernel_rfl) (by simp) ?_
        refine AllReadyH.cons rfl (fun K hK => ?_) AllReadyH.nil
        have c5 := (B3.out.cell ((N - 1) * 5 + 3)).trans ((List.getElem?_set_ne (by omega)).trans e3)
        have f5 := B3.out.free ((N - 1) * 5 + 3)
        have c6 := ((B2.out.put 2 (.bool true)).cell ((N - 1) * 5 + 3)).trans ((List.getElem?_set_ne (by omega)).trans e3)
        have f6 := (B2.out.put 2 (.bool true)).free ((N - 1) * 5 + 3)
        go_simp
        have B4 := Lib.hid (B3.out.put ((N - 1) * 5 + 3) (.bool true))
        have TU := Lib.hid (TS.out.setCell (p := ⟨b, (N - 1) * 5 + 3, none⟩) (.inl rfl) (.bool true))
        have G4 := Lib.hid (G2.out.drew.turn TU.out (fun h => HNE.out.2.1 h.symm))
        refine hK.out _ _ (G4.out.cell 0) (fun hHeld => ?_)
        clear hK K c5 f5 c6 f6
        try simp only [List.getElem_toArray, List.getElem_cons_zero, List.getElem_cons_succ, Act.put, List.setIfInBounds_toArray, List.set_cons_zero, List.set_cons_succ]
        refine wpAnyH_done (by kernel_rfl) ?_ _
        refine NoPanic.normal ?_
        have KD4 := Lib.hid ((TU.out.block D (Array.getElem?_eq_some_iff.1 KD.out).1 (fun h => HNE.out.1 h)).trans KD.out)
        have BB := Lib.hid (HB.out.drew.trans (TU.out.below HB.out.size (fun k h => by have := HNE.out; omega)))
        have g4 := G4.out.cell 0
        simp only [List.getElem?_cons_zero] at g4
        gi_wp2_with fail
        refine ret_mark (D := D) KD4.out rfl (results_tmp2 (t := 6) (u := 7) (by kernel_rfl) _ _ _) ?_
        show CutPost w (raw5 e q (pcs5 S)) _ _
        rw [HR.out]
        refine ⟨BB.out.trans ((put_turn5 _ D _).below BB.out.size (fun k h => by have := HW0.out; omega)), .inr ⟨HOK.out, _, rfl, ?_⟩⟩
        refine World.ownsRow.turn5 ?_ (put_turn5 _ D _) (fun k hk h => by simp [Value.ownBlock] at hk; have := HNE.out; omega)
        obtain ⟨n4, n1, n2, n3, nl⟩ := HN.out
        have hb4 := B4.out
        unfold Blk at hb4
        rw [nl]
        refine ⟨by rw [len_scells, mk5, len_mod5, len_mod5, nl], .inr ⟨b, cap, _, rfl, by have := HNE.out; omega, hb4, n1, n2, by simp [n3], ?_⟩⟩
        rw [mk5, nl, ← set5 (fun s => { s with z := true }) (.bool true) 3 (by decide) (fun _ => rfl), ← set5 (fun s => { s with f := true }) (.bool true) 2 (by decide) (fun _ => rfl), ← n4]
        simp [List.take_set]
  case stop =>
    rintro D c pre W _ _ h _
    exact h.elim
end Go.Proofs.Ythhmodbggngelaa
