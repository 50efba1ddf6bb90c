/- Layer 9: a pager in memory, and its small calls. -/
import Derived.Test.YtmedljnbcpdoeaaDoorPrA
import Derived.Test.YtmedljnbcpdoeaaDoorOwn1
import Derived.Test.YtmedljnbcpdoeaaDoorAlK
import Derived.Test.YtmedljnbcpdoeaaDoorBlkK
import Derived.BigQuiet
namespace Go.Proofs.YtmedljnbcpdoeaaDoor
open Go.RowKit
set_option linter.unusedVariables false
set_option linter.unusedSimpArgs false
set_option maxRecDepth 100000

def sv9 (x : Nat) : Value := .int .i64 (x : Int)
/-- A pager's blocks: of the pages st, over the free bits l. -/
structure Pm (w : World) (p pd pa ga gr fr : Nat) (st : List Nat) (l : List Bool) : Prop where
  bx : Blk w p 81 [.pointer (some ⟨pd, 0, none⟩), .int .i64 fr, .pointer (some ⟨pa, 0, none⟩), .slice (some ⟨gr, 0, none⟩) st.length st.length]
  row : Blk w gr 84 (st.map sv9)
  al : Al w pa ga l
  len : l.length = st.length
  d1 : p ≠ gr
  d2 : p ≠ pa
  d3 : p ≠ ga
  d4 : gr ≠ pa
  d5 : gr ≠ ga
  p0 : p ≠ 0
  g0 : gr ≠ 0
variable {w w' : World} {p pd pa ga gr fr : Nat} {st : List Nat} {l : List Bool} {S : Nat → Prop}
theorem Pm.turn (h : Pm w p pd pa ga gr fr st l) (ht : Turn S w w') (h1 : ¬ S p) (h2 : ¬ S pa) (h3 : ¬ S ga) (h4 : ¬ S gr) (h0 : ¬ S 0) : Pm w' p pd pa ga gr fr st l :=
  ⟨h.bx.turn ht h1, h.row.turn ht h4, h.al.turn ht h2 h3 h0, h.len, h.d1, h.d2, h.d3, h.d4, h.d5, h.p0, h.g0⟩
theorem Pm.still (h : Pm w p pd pa ga gr fr st l) (ht : Turn (fun _ => False) w w') : Pm w' p pd pa ga gr fr st l := h.turn ht (fun h => h) (fun h => h) (fun h => h) (fun h => h) (fun h => h)
theorem Pm.pos (h : Pm w p pd pa ga gr fr st l) : 0 < st.length := by have := h.al.pos; rw [h.len] at this; exact this
theorem Pm.le (h : Pm w p pd pa ga gr fr st l) : st.length ≤ 16384 := by have := h.al.le; rw [h.len] at this; exact this
/-- No pager, or one that nothing made. -/
def Nop (w : World) (v : Value) : Prop := v = .pointer none ∨ ∃ p, v = .pointer (some ⟨p, 0, none⟩) ∧ w.cell? ⟨p, 0, none⟩ = some (.pointer none)
theorem Nop.turn {v : Value} (h : Nop w v) (ht : Turn (fun _ => False) w w') : Nop w' v := by
  rcases h with h | ⟨p, h1, h2⟩
  · exact .inl h
  · exact .inr ⟨p, h1, (World.cell?_of_block (w := w) (a := ⟨p, 0, none⟩) (ht.block p (cell_lt h2) (fun h => h))).trans h2⟩
theorem made9 (h : Pm w p pd pa ga gr fr st l) :
    Calls Tryd.prog 37 #[.pointer (some ⟨p, 0, none⟩)] w fun r w' => r = .returned (.bool true) ∧ w' = w := by
  have c0 := h.bx.cell 0
  simp only [List.getElem?_cons_zero] at c0
  clear h
  go_enter Tryd.func37, Tryd.ntmps37
  go_wp2
  go_ret
  exact ⟨rfl, rfl⟩
theorem made9_no {v : Value} (h : Nop w v) :
    Calls Tryd.prog 37 #[v] w fun r w' => r = .returned (.bool false) ∧ w' = w := by
  rcases h with rfl | ⟨p, rfl, c0⟩
  · go_enter Tryd.func37, Tryd.ntmps37
    go_wp2
    go_ret
    exact ⟨rfl, rfl⟩
  · go_enter Tryd.func37, Tryd.ntmps37
    go_wp2
    go_ret
    exact ⟨rfl, rfl⟩
def has9 (st : List Nat) (i : Int) : Bool := decide (0 ≤ i) && decide (i < st.length)
def is9 (st : List Nat) (i : Int) (s : Nat) : Bool := has9 st i && (st.getD i.toNat 0 == s)
theorem has9_any (h : Pm w p pd pa ga gr fr st l) (i : Int) :
    Calls Tryd.prog 41 #[.pointer (some ⟨p, 2, none⟩), .int .i64 i] w fun r w' => r = .returned (.bool (has9 st i)) ∧ w' = w := by
  have c3 := h.bx.cell 3
  simp only [List.getElem?_cons_succ, List.getElem?_cons_zero] at c3
  clear h
  generalize hn : st.length = n at *
  by_cases h0 : 0 ≤ i
  · by_cases h1 : i < n
    · rw [show has9 st i = true by unfold has9; rw [hn]; simp [h0, h1]]
      clear hn
      go_enter Tryd.func41, Tryd.ntmps41
      go_wp2
      go_ret
      exact ⟨rfl, rfl⟩
    · rw [show has9 st i = false by unfold has9; rw [hn]; simp [h1]]
      clear hn
      go_enter Tryd.func41, Tryd.ntmps41
      go_wp2
      go_ret
      exact ⟨rfl, rfl⟩
  · rw [show has9 st i = false by unfold has9; simp [h0]]
    clear hn
    go_enter Tryd.func41, Tryd.ntmps41
    go_wp2
    go_ret
    exact ⟨rfl, rfl⟩
theorem is9_any (h : Pm w p pd pa ga gr fr st l) (i : Int) (s : Nat) :
    Calls Tryd.prog 38 #[.pointer (some ⟨p, 2, none⟩), .int .i64 i, .int .i64 s] w fun r w' => r = .returned (.bool (is9 st i s)) ∧ w' = w := by
  have HH := Lib.hid (has9_any h i)
  have c3 := h.bx.cell 3
  simp only [List.getElem?_cons_succ, List.getElem?_cons_zero] at c3
  by_cases hb : has9 st i = true
  · rw [hb] at HH
    have hi : 0 ≤ i ∧ i < st.length := by unfold has9 at hb; simpa using hb
    obtain ⟨k, rfl⟩ : ∃ k : Nat, i = k := ⟨i.toNat, by omega⟩
    have hk : k < st.length := by omega
    have r0 : w.cell? ⟨gr, k, none⟩ = some (.int .i64 ((st.getD k 0 : Nat) : Int)) := by
      rw [h.row.cell k, List.getElem?_map, List.getElem?_eq_getElem hk, List.getD_eq_getElem?_getD, List.getElem?_eq_getElem hk]; rfl
    have hv : is9 st k s = decide (((st.getD k 0 : Nat) : Int) = (s : Int)) := by
      unfold is9
      rw [hb, Int.toNat_natCast, Bool.true_and]
      by_cases e : st.getD k 0 = s
      · rw [e]; simp
      · rw [decide_eq_false (by omega)]; simpa using e
    rw [hv]
    have h1 : (k : Int) < (st.length : Int) := by omega
    have h2 : (0 : Int) ≤ (k : Int) := by omega
    generalize st.getD k 0 = X at *
    have he : ((X : Int) == (s : Int)) = decide ((X : Int) = (s : Int)) := rfl
    clear h hb hv hi
    generalize st.length = n at *
    go_enter Tryd.func38, Tryd.ntmps38
    go_wp2_with fail
    refine HH.out.mono ?_
    rintro e w1 ⟨rfl, rfl⟩
    go_wp2
    go_ret
    exact ⟨rfl, rfl⟩
  · have hb : has9 st i = false := by simpa using hb
    rw [hb] at HH
    rw [show is9 st i s = false by unfold is9; rw [hb]; rfl]
    clear h c3 hb
    go_enter Tryd.func38, Tryd.ntmps38
    go_wp2_with fail
    refine HH.out.mono ?_
    rintro e w1 ⟨rfl, rfl⟩
    go_wp2
    go_ret
    exact ⟨rfl, rfl⟩
end Go.Proofs.YtmedljnbcpdoeaaDoor
/- Layer 9: set, pick, turn. -/
namespace Go.Proofs.YtmedljnbcpdoeaaDoor
open Go.RowKit
set_option linter.unusedVariables false
set_option linter.unusedSimpArgs false
set_option maxRecDepth 100000

variable {w w' : World} {p pd pa ga gr fr : Nat} {st : List Nat} {l : List Bool} {S : Nat → Prop}
theorem Pm.put (h : Pm w p pd pa ga gr fr st l) (i s : Nat) : Pm (w.setCell ⟨gr, i, none⟩ (.int .i64 s)) p pd pa ga gr fr (st.set i s) l ∧ Turn (fun k => k = gr) w (w.setCell ⟨gr, i, none⟩ (.int .i64 s)) := by
  have ht := (Turn.refl (fun k => k = gr) w).setCell (p := ⟨gr, i, none⟩) (.inl rfl) (.int .i64 s)
  refine ⟨⟨?_, ?_, h.al.turn ht (fun e => h.d4 e.symm) (fun e => h.d5 e.symm) (fun e => h.g0 e.symm), by rw [List.length_set]; exact h.len, h.d1, h.d2, h.d3, h.d4, h.d5, h.p0, h.g0⟩, ht⟩
  · rw [List.length_set]; exact h.bx.turn ht h.d1
  · have := h.row.put i (sv9 s)
    rw [List.map_set]; exact this
theorem Pm.cellRow (h : Pm w p pd pa ga gr fr st l) (i : Nat) (hi : i < st.length) : w.cell? ⟨gr, i, none⟩ = some (.int .i64 ((st.getD i 0 : Nat) : Int)) := by
  rw [h.row.cell i, List.getElem?_map, List.getElem?_eq_getElem hi, List.getD_eq_getElem?_getD, List.getElem?_eq_getElem hi]; rfl
set_option maxHeartbeats 1000000 in
theorem set9_any (h : Pm w p pd pa ga gr fr st l) (i s : Nat) (hi : i < st.length) :
    Calls Tryd.prog 42 #[.pointer (some ⟨p, 2, none⟩), .int .i64 i, .int .i64 s] w fun r w' => r = .returned (.tuple #[]) ∧ Pm w' p pd pa ga gr fr (st.set i s) (if s = 0 then (giv7 l i 1).1 else l) ∧ Turn (fun k => k = gr ∨ k = ga) w w' := by
  have hle := h.le
  have c3 := h.bx.cell 3
  simp only [List.getElem?_cons_succ, List.getElem?_cons_zero] at c3
  have r0 := h.cellRow i hi
  have f0 : w.frozen? ⟨gr, i, none⟩ = false := h.row.free i
  obtain ⟨hp, ht⟩ := h.put i s
  have x2 := hp.bx.cell 2
  simp only [List.getElem?_cons_succ, List.getElem?_cons_zero] at x2
  have HP := Lib.hid hp
  have HT := Lib.hid (ht.mono (T := fun k => k = gr ∨ k = ga) (fun _ _ h => .inl h))
  have h1 : (i : Int) < (st.length : Int) := by omega
  have h2 : (0 : Int) ≤ (i : Int) := by omega
  clear h hp ht
  generalize st.length = n at *
  by_cases hs : s = 0
  · subst hs
    rw [if_pos rfl]
    rw [show ((0 : Nat) : Int) = 0 from rfl] at *
    have HG := Lib.hid (give7 HP.out.al (i : Int) 1 (by omega) (by decide))
    clear hi hle
    go_enter Tryd.func42, Tryd.ntmps42
    go_wp2_with fail
    refine HG.out.mono ?_
    rintro e w2 ⟨rfl, hal, ht2⟩
    have hP2 : Pm w2 p pd pa ga gr fr (st.set i 0) (giv7 l i 1).1 := by
      have h0 := HP.out
      have hga : 0 ≠ ga := fun e => by obtain ⟨c, rest, _, _, _, _, _, hg0, _⟩ := hal; exact hg0 e.symm
      have hpg : pa ≠ ga := by obtain ⟨c, rest, _, _, _, _, _, _, hpg, _⟩ := hal; exact hpg
      refine ⟨h0.bx.turn ht2 h0.d3, h0.row.turn ht2 h0.d5, hal, ?_, h0.d1, h0.d2, h0.d3, h0.d4, h0.d5, h0.p0, h0.g0⟩
      have hl := h0.len
      rw [← hl]
      unfold giv7
      split <;> (try rfl)
      split <;> (try rfl)
      split <;> (try rfl)
      exact len_flip _ _ _
    have T2 := HT.out.trans (ht2.mono (T := fun k => k = gr ∨ k = ga) (fun _ _ h => .inr h))
    have HP2 := Lib.hid hP2
    have HT2 := Lib.hid T2
    clear hP2 T2 hal ht2
    go_wp2_with fail
    go_end0
    exact ⟨rfl, HP2.out, HT2.out⟩
  · rw [if_neg hs]
    have hne : ((s : Int) == 0) = false := by simp; omega
    clear hi hle
    go_enter Tryd.func42, Tryd.ntmps42
    go_wp2_with fail
    go_end0
    exact ⟨rfl, HP.out, HT.out⟩
set_option maxHeartbeats 1000000 in
theorem pick9_any (h : Pm w p pd pa ga gr fr st l) (s : Nat) :
    Calls Tryd.prog 59 #[.int .i64 s, .slice (some ⟨gr, 0, none⟩) st.length st.length] w fun r w' => ∃ v, r = .returned v ∧ w'.ownsRow w.heap.size 3 1 v (pk9 s st).length ((pk9 s st).map (Value.int .i64)) ∧ Turn (fun _ => False) w w' := by
  have hle := h.le
  have HC : Hid (∀ wr, Turn (fun _ => False) w wr → ∀ i, i < st.length → wr.cell? ⟨gr, i, none⟩ = some (.int .i64 ((st.getD i 0 : Nat) : Int))) := Lib.hid (fun wr ht i hi => (h.still ht).cellRow i hi)
  have HW := Lib.hid (Turn.refl (fun _ => False) w)
  have hpk : Hid (pk9 s st = pkTo s st st.length) := Lib.hid rfl
  rw [hpk.out]
  clear h
  obtain ⟨n, hn⟩ : ∃ n, st.length = n := ⟨_, rfl⟩
  rw [hn] at hle HC ⊢
  clear hpk hn
  go_enter Tryd.func59, Tryd.ntmps59
  go_wp2_with fail
  go_loopw [5, 6, 7, 10] (fun v5 v6 v7 v10 wr => ∃ (i : Nat), i ≤ n ∧ v10 = .int .i64 i ∧ wr.ownsRow w.heap.size 3 1 v5 (pkTo s st i).length ((pkTo s st i).map (Value.int .i64)) ∧ Turn (fun _ => False) w wr) (fun _ _ _ v10 _ => n - (intOf v10).toNat)
  case atStart => exact ⟨0, Nat.zero_le _, rfl, own_nil9 _ _ _, HW.out⟩
  case round =>
    obtain ⟨i, hi, rfl, ho, ht⟩ := hrel
    obtain ⟨A, c, rfl⟩ := own_slice9 ho
    have HO := Lib.hid ho
    have HT := Lib.hid ht
    have hb := pkTo_le s st i
    clear ho ht
    by_cases hlt : i < n
    · have hl1 : (i : Int) < (n : Int) := by omega
      have hl0 : (0 : Int) ≤ (i : Int) := by omega
      have hq := wrap_of ((i : Int) + 1) (by omega) (by omega)
      have c0 := HC.out wr HT.out i hlt
      have HS := Lib.hid (pkTo_succ s st i)
      by_cases he : st.getD i 0 = s
      · rw [he] at c0
        have HS2 : Hid (pkTo s st (i + 1) = pkTo s st i ++ [(i : Int)]) := Lib.hid (by rw [HS.out, he]; simp)
        have hee : ((s : Int) == (s : Int)) = true := by simp
        clear he HS
        go_wp2_with (at_builtin; refine wpList_app1I9 rfl _ _ rfl w.heap.size (.slice A (pkTo s st i).length c) (pkTo s st i) (i : Int) wr.heap.size rfl rfl (own_far9 HO.out ((Turn.refl (fun _ => False) wr).alloc _) (fun _ _ h => h)) (Blk.new wr 3 [.int .i64 (i : Int)]) (by omega) (by have := HT.out.size; rw [World.size_alloc]; omega) ?_; intro v' X ho ht hv; obtain ⟨A2, c2, rfl⟩ := own_slice9 ho; have HO2 := Lib.hid ho; have HT2 := Lib.hid ((HT.out.alloc (.cells #[.int .i64 (i : Int)] 3)).trans_new ht (fun k hk h => by have := own_blk9 HO.out _ h; omega)); clear ho ht hv)
        go_roundw
        case rel => exact ⟨i + 1, by omega, by simp [hq], by rw [HS2.out]; have := HO2.out; simpa using this, HT2.out⟩
        case measure => simp [intOf, hq]; omega
      · have HS2 : Hid (pkTo s st (i + 1) = pkTo s st i) := Lib.hid (by rw [HS.out, if_neg (by simpa using he)])
        have hne : (((st.getD i 0 : Nat) : Int) == (s : Int)) = false := beq_eq_false_iff_ne.2 (fun h => he (Int.ofNat.inj h))
        clear he HS
        generalize st.getD i 0 = X at *
        go_wp2_with fail
        go_roundw
        case rel => exact ⟨i + 1, by omega, by simp [hq], by rw [HS2.out]; exact HO.out, HT.out⟩
        case measure => simp [intOf, hq]; omega
    · obtain rfl : i = n := by omega
      go_wp2_with fail
      go_ret
      exact ⟨_, rfl, HO.out, HT.out⟩
end Go.Proofs.YtmedljnbcpdoeaaDoor
/- Layer 9: turn; Settle, Undo, Release, Pages, Free. -/
namespace Go.Proofs.YtmedljnbcpdoeaaDoor
open Go.RowKit
set_option linter.unusedVariables false
set_option linter.unusedSimpArgs false
set_option maxRecDepth 100000

variable {w w' : World} {p pd pa ga gr fr : Nat} {st : List Nat} {l : List Bool} {S : Nat → Prop}
theorem own_at9 {w : World} {B t n c : Nat} {A : Option Addr} {xs : List Value} (h : w.ownsRow B t 1 (.slice A n c) n xs) (j : Nat) (u : Value) (hj : xs[j]? = some u) : ∃ g, A = some ⟨g, 0, none⟩ ∧ B ≤ g ∧ g < w.heap.size ∧ w.cell? ⟨g, j, none⟩ = some u := by
  have hp : 0 < n := by
    have hl : xs.length = n := by have := h.1; simpa using this
    rcases Nat.eq_zero_or_pos n with h0 | h0
    · rw [h0] at hl; rw [List.eq_nil_of_length_eq_zero hl] at hj; cases hj
    · exact h0
  obtain ⟨g, hg⟩ : ∃ g, (Value.slice A n c).ownBlock = some g := by
    obtain ⟨_, ⟨e, hz⟩ | ⟨g, c2, cur, e, _⟩⟩ := h
    · omega
    · exact ⟨g, by rw [e]; rfl⟩
  have hA : A = some ⟨g, 0, none⟩ := by
    obtain ⟨_, ⟨e, hz⟩ | ⟨g2, c2, cur, e, _⟩⟩ := h
    · omega
    · have : g2 = g := by rw [e] at hg; simpa [Value.ownBlock] using hg
      subst this; injection e
  have h5 := h.cells (g := g) hg j u hj
  rw [Addr.add_mid, Nat.zero_add] at h5
  exact ⟨g, hA, (own_blk9 h g hg).1, (own_blk9 h g hg).2, h5⟩
set_option maxHeartbeats 1000000 in
theorem turn9_any (h : Pm w p pd pa ga gr fr st (bits9 st)) (a b : Nat) (ha : a ≠ 0) :
    Calls Tryd.prog 44 #[.pointer (some ⟨p, 2, none⟩), .int .i64 a, .int .i64 b] w fun r w' => r = .returned (.tuple #[]) ∧ Pm w' p pd pa ga gr fr (trn9 a b st) (bits9 (trn9 a b st)) ∧ Turn (fun k => k = gr ∨ k = ga) w w' := by
  have hle := h.le
  have HPK := Lib.hid (pick9_any h a)
  have c3 := h.bx.cell 3
  simp only [List.getElem?_cons_succ, List.getElem?_cons_zero] at c3
  have hgr := h.row.lt
  have hga := h.al.ltg
  have hpl : Hid ((pk9 a st).length ≤ st.length) := Lib.hid (pkTo_le a st st.length)
  have HP := Lib.hid h
  have HA := Lib.hid ha
  have HE := Lib.hid (tr9_all a b st)
  clear h ha
  obtain ⟨n, hn⟩ : ∃ n, st.length = n := ⟨_, rfl⟩
  have HN := Lib.hid hn
  rw [hn] at hle HPK c3 hpl
  obtain ⟨m, hm⟩ : ∃ m, (pk9 a st).length = m := ⟨_, rfl⟩
  have HM := Lib.hid hm
  rw [hm] at HPK hpl
  have hmn := hpl.out
  clear hn hm hpl
  go_enter Tryd.func44, Tryd.ntmps44
  go_wp2_with fail
  refine HPK.out.mono ?_
  rintro e w1 ⟨v, rfl, ho, ht⟩
  obtain ⟨A, c, rfl⟩ := own_slice9 ho
  have HO := Lib.hid ho
  have P1 := Lib.hid (HP.out.still ht)
  have T1 := Lib.hid (ht.mono (T := fun k => k = gr ∨ k = ga) (fun _ _ h => h.elim))
  clear ho ht c3
  go_wp2_with fail
  go_loopw [7, 15] (fun v7 v15 wr => ∃ (j : Nat), j ≤ m ∧ v15 = .int .i64 j ∧ Pm wr p pd pa ga gr fr (tr9 b st ((pk9 a st).take j)) (bits9 (tr9 b st ((pk9 a st).take j))) ∧ wr.ownsRow w.heap.size 3 1 (.slice A m c) m ((pk9 a st).map (Value.int .i64)) ∧ Turn (fun k => k = gr ∨ k = ga) w wr) (fun _ v15 _ => m - (intOf v15).toNat)
  case atStart => exact ⟨0, Nat.zero_le _, rfl, P1.out, HO.out, T1.out⟩
  case round =>
    obtain ⟨j, hj, rfl, hP, hO, hT⟩ := hrel
    have PP := Lib.hid hP
    have OO := Lib.hid hO
    have TT := Lib.hid hT
    clear hP hO hT
    by_cases hlt : j < m
    · have hl1 : (j : Int) < (m : Int) := by omega
      have hl0 : (0 : Int) ≤ (j : Int) := by omega
      have hq := wrap_of ((j : Int) + 1) (by omega) (by omega)
      have hjL : j < (pk9 a st).length := by rw [HM.out]; exact hlt
      obtain ⟨z, hz⟩ : ∃ z, (pk9 a st)[j]? = some z := ⟨_, List.getElem?_eq_getElem hjL⟩
      obtain ⟨z0, z1, z2⟩ := tr9_next a b st j z hz
      obtain ⟨k, rfl⟩ : ∃ k : Nat, z = k := ⟨z.toNat, by omega⟩
      obtain ⟨g, rfl, hg0, hg1, hgc⟩ := own_at9 OO.out j (.int .i64 (k : Int)) (by rw [List.getElem?_map, hz]; rfl)
      have HS := Lib.hid (set9_any PP.out k b (by rw [len_tr9]; omega))
      have HNX : Hid (tr9 b st ((pk9 a st).take (j + 1)) = (tr9 b st ((pk9 a st).take j)).set k b) := Lib.hid (by
        rw [List.take_add_one, hz, show (some ((k : Nat) : Int)).toList = [((k : Nat) : Int)] from rfl, tr9_snoc, Int.toNat_natCast])
      have HBT : Hid ((if b = 0 then (giv7 (bits9 (tr9 b st ((pk9 a st).take j))) k 1).1 else bits9 (tr9 b st ((pk9 a st).take j))) = bits9 ((tr9 b st ((pk9 a st).take j)).set k b)) := Lib.hid (by
        rw [Int.toNat_natCast] at z2
        have hkl : k < (tr9 b st ((pk9 a st).take j)).length := by rw [len_tr9]; omega
        split
        · rename_i hb0
          subst hb0
          rw [giv9 _ _ hkl (by rw [z2]; exact HA.out)]
        · rename_i hb0
          rw [bits9_same _ _ _ hkl]
          rw [z2]
          have := HA.out
          rw [beq_eq_false_iff_ne.2 hb0, beq_eq_false_iff_ne.2 this])
      rw [HBT.out, ← HNX.out] at HS
      clear hz z0 z1 z2 hjL HNX HBT
      go_wp2_with fail
      refine HS.out.mono ?_
      rintro e w2 ⟨rfl, hP, hT⟩
      have PP2 := Lib.hid hP
      have OO2 := Lib.hid (own_far9 OO.out hT (fun q hq h => by have := own_blk9 OO.out q hq; omega))
      have TT2 := Lib.hid (TT.out.trans hT)
      clear hP hT
      go_wp2_with fail
      go_roundw
      case rel => exact ⟨j + 1, by omega, by simp [hq], PP2.out, OO2.out, TT2.out⟩
      case measure => simp [intOf, hq]; omega
    · obtain rfl : j = m := by omega
      have PF : Hid (Pm wr p pd pa ga gr fr (trn9 a b st) (bits9 (trn9 a b st))) := Lib.hid (by
        have := PP.out
        rw [← HM.out, List.take_length, HE.out] at this
        exact this)
      go_wp2_with fail
      go_end0
      exact ⟨rfl, PF.out, TT.out⟩
def settle9 (st : List Nat) : List Nat := trn9 3 0 (trn9 2 1 st)
def undo9 (st : List Nat) : List Nat := trn9 3 1 (trn9 2 0 st)
theorem settle9_any (h : Pm w p pd pa ga gr fr st (bits9 st)) :
    Calls Tryd.prog 15 #[.pointer (some ⟨p, 0, none⟩)] w fun r w' => r = .returned (.int .i64 0) ∧ Pm w' p pd pa ga gr fr (settle9 st) (bits9 (settle9 st)) ∧ Turn (fun k => k = gr ∨ k = ga) w w' := by
  have HM := Lib.hid (made9 h)
  have H1 := Lib.hid (turn9_any h 2 1 (by decide))
  have H2 := Lib.hid (fun (W : World) (hW : Pm W p pd pa ga gr fr (trn9 2 1 st) (bits9 (trn9 2 1 st))) => turn9_any hW 3 0 (by decide))
  clear h
  go_enter Tryd.func15, Tryd.ntmps15
  go_wp2_with fail
  refine HM.out.mono ?_
  rintro e w1 ⟨rfl, rfl⟩
  go_wp2_with fail
  refine H1.out.mono ?_
  rintro e w2 ⟨rfl, hP, hT⟩
  have P2 := Lib.hid hP
  have T2 := Lib.hid hT
  clear hP hT
  go_wp2_with fail
  refine (H2.out _ P2.out).mono ?_
  rintro e w3 ⟨rfl, hP, hT⟩
  have P3 := Lib.hid hP
  have T3 := Lib.hid (T2.out.trans hT)
  clear hP hT
  go_wp2_with fail
  go_ret
  exact ⟨rfl, P3.out, T3.out⟩
theorem undo9_any (h : Pm w p pd pa ga gr fr st (bits9 st)) :
    Calls Tryd.prog 17 #[.pointer (some ⟨p, 0, none⟩)] w fun r w' => r = .returned (.int .i64 0) ∧ Pm w' p pd pa ga gr fr (undo9 st) (bits9 (undo9 st)) ∧ Turn (fun k => k = gr ∨ k = ga) w w' := by
  have HM := Lib.hid (made9 h)
  have H1 := Lib.hid (turn9_any h 2 0 (by decide))
  have H2 := Lib.hid (fun (W : World) (hW : Pm W p pd pa ga gr fr (trn9 2 0 st) (bits9 (trn9 2 0 st))) => turn9_any hW 3 1 (by decide))
  clear h
  go_enter Tryd.func17, Tryd.ntmps17
  go_wp2_with fail
  refine HM.out.mono ?_
  rintro e w1 ⟨rfl, rfl⟩
  go_wp2_with fail
  refine H1.out.mono ?_
  rintro e w2 ⟨rfl, hP, hT⟩
  have P2 := Lib.hid hP
  have T2 := Lib.hid hT
  clear hP hT
  go_wp2_with fail
  refine (H2.out _ P2.out).mono ?_
  rintro e w3 ⟨rfl, hP, hT⟩
  have P3 := Lib.hid hP
  have T3 := Lib.hid (T2.out.trans hT)
  clear hP hT
  go_wp2_with fail
  go_ret
  exact ⟨rfl, P3.out, T3.out⟩
end Go.Proofs.YtmedljnbcpdoeaaDoor
/- Layer 9: Release, Pages, Free, sector; of no pager. -/
namespace Go.Proofs.YtmedljnbcpdoeaaDoor
open Go.RowKit
set_option linter.unusedVariables false
set_option linter.unusedSimpArgs false
set_option maxRecDepth 100000

variable {w w' : World} {p pd pa ga gr fr : Nat} {st : List Nat} {l : List Bool} {S : Nat → Prop}
def rel9 (st : List Nat) (i : Int) : List Nat × Int :=
  if has9 st i then (if is9 st i 2 then (st.set i.toNat 0, 0) else if is9 st i 1 then (st.set i.toNat 3, 0) else (st, 7)) else (st, 6)
theorem is9_iff {st : List Nat} {i : Int} {s : Nat} (h : is9 st i s = true) : ∃ k : Nat, i = k ∧ k < st.length ∧ st.getD k 0 = s := by
  unfold is9 has9 at h
  simp only [Bool.and_eq_true, decide_eq_true_eq, beq_iff_eq] at h
  exact ⟨i.toNat, by omega, by omega, h.2⟩
theorem release9_any (h : Pm w p pd pa ga gr fr st (bits9 st)) (i : Int) :
    Calls Tryd.prog 13 #[.pointer (some ⟨p, 0, none⟩), .int .i64 i] w fun r w' => r = .returned (.int .i64 (rel9 st i).2) ∧ Pm w' p pd pa ga gr fr (rel9 st i).1 (bits9 (rel9 st i).1) ∧ Turn (fun k => k = gr ∨ k = ga) w w' := by
  have HM := Lib.hid (made9 h)
  have HH := Lib.hid (has9_any h i)
  have H2 := Lib.hid (is9_any h i 2)
  have H1 := Lib.hid (is9_any h i 1)
  have HP := Lib.hid h
  have HT := Lib.hid (Turn.refl (fun k => k = gr ∨ k = ga) w)
  clear h
  cases hh : has9 st i with
  | false =>
    rw [hh] at HH
    rw [show rel9 st i = (st, 6) by unfold rel9; rw [hh]; rfl]
    clear hh
    go_enter Tryd.func13, Tryd.ntmps13
    go_wp2_with fail
    refine HM.out.mono ?_
    rintro e w1 ⟨rfl, rfl⟩
    go_wp2_with fail
    refine HH.out.mono ?_
    rintro e w1 ⟨rfl, rfl⟩
    go_wp2_with fail
    go_ret
    exact ⟨rfl, HP.out, HT.out⟩
  | true =>
    rw [hh] at HH
    cases h2 : is9 st i 2 with
    | true =>
      rw [h2] at H2
      rw [show rel9 st i = (st.set i.toNat 0, 0) by unfold rel9; rw [hh, h2]; rfl]
      obtain ⟨k, rfl, hk, hs⟩ := is9_iff h2
      have HS := Lib.hid (set9_any HP.out k 0 hk)
      rw [if_pos rfl, giv9 st k hk (by rw [hs]; decide)] at HS
      rw [Int.toNat_natCast]
      rw [show ((0 : Nat) : Int) = 0 from rfl] at HS
      rw [show ((2 : Nat) : Int) = 2 from rfl] at H2
      clear hh h2 hk hs H1
      go_enter Tryd.func13, Tryd.ntmps13
      go_wp2_with fail
      refine HM.out.mono ?_
      rintro e w1 ⟨rfl, rfl⟩
      go_wp2_with fail
      refine HH.out.mono ?_
      rintro e w1 ⟨rfl, rfl⟩
      go_wp2_with fail
      refine H2.out.mono ?_
      rintro e w1 ⟨rfl, rfl⟩
      go_wp2_with fail
      refine HS.out.mono ?_
      rintro e w2 ⟨rfl, hP, hT⟩
      have P2 := Lib.hid hP
      have T2 := Lib.hid hT
      clear hP hT
      go_wp2_with fail
      go_ret
      exact ⟨rfl, P2.out, T2.out⟩
    | false =>
      rw [h2] at H2
      rw [show ((2 : Nat) : Int) = 2 from rfl] at H2
      rw [show ((1 : Nat) : Int) = 1 from rfl] at H1
      cases h1 : is9 st i 1 with
      | true =>
        rw [h1] at H1
        rw [show rel9 st i = (st.set i.toNat 3, 0) by unfold rel9; rw [hh, h2, h1]; rfl]
        obtain ⟨k, rfl, hk, hs⟩ := is9_iff h1
        have HS := Lib.hid (set9_any HP.out k 3 hk)
        rw [if_neg (by decide), ← bits9_same st k 3 hk (by rw [hs]; rfl)] at HS
        rw [Int.toNat_natCast]
        rw [show ((3 : Nat) : Int) = 3 from rfl] at HS
        clear hh h2 h1 hk hs
        go_enter Tryd.func13, Tryd.ntmps13
        go_wp2_with fail
        refine HM.out.mono ?_
        rintro e w1 ⟨rfl, rfl⟩
        go_wp2_with fail
        refine HH.out.mono ?_
        rintro e w1 ⟨rfl, rfl⟩
        go_wp2_with fail
        refine H2.out.mono ?_
        rintro e w1 ⟨rfl, rfl⟩
        go_wp2_with fail
        refine H1.out.mono ?_
        rintro e w1 ⟨rfl, rfl⟩
        go_wp2_with fail
        refine HS.out.mono ?_
        rintro e w2 ⟨rfl, hP, hT⟩
        have P2 := Lib.hid hP
        have T2 := Lib.hid hT
        clear hP hT
        go_wp2_with fail
        go_ret
        exact ⟨rfl, P2.out, T2.out⟩
      | false =>
        rw [h1] at H1
        rw [show rel9 st i = (st, 7) by unfold rel9; rw [hh, h2, h1]; rfl]
        clear hh h2 h1
        go_enter Tryd.func13, Tryd.ntmps13
        go_wp2_with fail
        refine HM.out.mono ?_
        rintro e w1 ⟨rfl, rfl⟩
        go_wp2_with fail
        refine HH.out.mono ?_
        rintro e w1 ⟨rfl, rfl⟩
        go_wp2_with fail
        refine H2.out.mono ?_
        rintro e w1 ⟨rfl, rfl⟩
        go_wp2_with fail
        refine H1.out.mono ?_
        rintro e w1 ⟨rfl, rfl⟩
        go_wp2_with fail
        go_ret
        exact ⟨rfl, HP.out, HT.out⟩
def Rw9 (B : Nat) (w : World) (v : Value) (L : List Int) : Prop := w.ownsRow B 3 1 v L.length (L.map (Value.int .i64))
theorem Rw9.turn {B : Nat} {v : Value} {L : List Int} (h : Rw9 B w v L) (ht : Turn S w w') (hS : ∀ k, S k → k < B) : Rw9 B w' v L := own_far9 h ht (fun k hk hs => by have := own_blk9 h k hk; have := hS k hs; omega)
theorem Rw9.still {B : Nat} {v : Value} {L : List Int} (h : Rw9 B w v L) (ht : Turn (fun _ => False) w w') : Rw9 B w' v L := h.turn ht (fun _ h => h.elim)
theorem Rw9.base {B C : Nat} {v : Value} {L : List Int} (h : Rw9 C w v L) (hB : B ≤ C) : Rw9 B w v L := by
  obtain ⟨hx, h | ⟨g, c, cur, e, hb, hr⟩⟩ := h
  · exact ⟨hx, .inl h⟩
  · exact ⟨hx, .inr ⟨g, c, cur, e, Nat.le_trans hB hb, hr⟩⟩
set_option maxHeartbeats 1000000 in
theorem pages9_any (h : Pm w p pd pa ga gr fr st l) :
    Calls Tryd.prog 30 #[.pointer (some ⟨p, 0, none⟩)] w fun r w' => ∃ v1 v2 v3, r = .returned (.tuple #[v1, v2, v3]) ∧ Rw9 w.heap.size w' v1 (pk9 1 st) ∧ Rw9 w.heap.size w' v2 (pk9 2 st) ∧ Rw9 w.heap.size w' v3 (pk9 3 st) ∧ Turn (fun _ => False) w w' := by
  have HM := Lib.hid (made9 h)
  have c3 := h.bx.cell 3
  simp only [List.getElem?_cons_succ, List.getElem?_cons_zero] at c3
  have HK := Lib.hid (fun (W : World) (ht : Turn (fun _ => False) w W) (s : Nat) => pick9_any (h.still ht) s)
  have h1 := Lib.hid (fun W ht => HK.out W ht 1)
  have h2 := Lib.hid (fun W ht => HK.out W ht 2)
  have h3 := Lib.hid (fun W ht => HK.out W ht 3)
  rw [show ((1 : Nat) : Int) = 1 from rfl] at h1
  rw [show ((2 : Nat) : Int) = 2 from rfl] at h2
  rw [show ((3 : Nat) : Int) = 3 from rfl] at h3
  clear h HK
  generalize st.length = n at *
  go_enter Tryd.func30, Tryd.ntmps30
  go_wp2_with fail
  refine HM.out.mono ?_
  rintro e w1 ⟨rfl, rfl⟩
  go_wp2_with fail
  refine (h1.out _ (Turn.refl _ _)).mono ?_
  rintro e w1 ⟨v1, rfl, ho, ht⟩
  have R1 : Hid (Rw9 w1.heap.size w1 v1 (pk9 1 st)) ∨ True := .inr trivial
  have O1 := Lib.hid (show Rw9 _ w1 v1 (pk9 1 st) from ho)
  have T1 := Lib.hid ht
  clear ho ht R1
  go_wp2_with fail
  refine (h2.out _ T1.out).mono ?_
  rintro e w2 ⟨v2, rfl, ho, ht⟩
  have O2 := Lib.hid ((show Rw9 _ w2 v2 (pk9 2 st) from ho).base T1.out.size)
  have O1b := Lib.hid (O1.out.still ht)
  have T2 := Lib.hid (T1.out.trans ht)
  clear ho ht O1
  go_wp2_with fail
  refine (h3.out _ T2.out).mono ?_
  rintro e w3 ⟨v3, rfl, ho, ht⟩
  have O3 := Lib.hid ((show Rw9 _ w3 v3 (pk9 3 st) from ho).base T2.out.size)
  have O1c := Lib.hid (O1b.out.still ht)
  have O2c := Lib.hid (O2.out.still ht)
  have T3 := Lib.hid (T2.out.trans ht)
  clear ho ht
  go_wp2_with fail
  exact bodyPost_ret (v := .tuple #[v1, v2, v3]) (by simp [results, Tryd.results30, go_sem]) rfl ⟨v1, v2, v3, rfl, O1c.out, O2c.out, O3.out, T3.out⟩
theorem free9_any (h : Pm w p pd pa ga gr fr st l) :
    Calls Tryd.prog 58 #[.pointer (some ⟨p, 0, none⟩)] w fun r w' => r = .returned (.int .i64 (free7 l)) ∧ w' = w := by
  have HM := Lib.hid (made9 h)
  have HF := Lib.hid (freeCount7 h.al)
  have c2 := h.bx.cell 2
  simp only [List.getElem?_cons_succ, List.getElem?_cons_zero] at c2
  clear h
  go_enter Tryd.func58, Tryd.ntmps58
  go_wp2_with fail
  refine HM.out.mono ?_
  rintro e w1 ⟨rfl, rfl⟩
  go_wp2_with fail
  refine HF.out.mono ?_
  rintro e w1 ⟨rfl, rfl⟩
  go_wp2_with fail
  go_ret
  exact ⟨rfl, rfl⟩
theorem sector9 (h : Pm w p pd pa ga gr fr st l) (i : Nat) (hi : i ≤ 20000) (hf : fr ≤ 1000000) :
    Calls Tryd.prog 51 #[.pointer (some ⟨p, 0, none⟩), .int .i64 i] w fun r w' => r = .returned (.int .i64 ((fr + 8 * i : Nat) : Int)) ∧ w' = w := by
  have c1 := h.bx.cell 1
  simp only [List.getElem?_cons_succ, List.getElem?_cons_zero] at c1
  have h1 := wrap_of ((i : Int) * 8) (by omega) (by omega)
  have h2 := wrap_of ((fr : Int) + (i : Int) * 8) (by omega) (by omega)
  have h3 : Hid (((fr + 8 * i : Nat) : Int) = (fr : Int) + (i : Int) * 8) := Lib.hid (by omega)
  rw [h3.out]
  clear h
  go_enter Tryd.func51, Tryd.ntmps51
  go_wp2_with fail
  go_ret
  exact ⟨rfl, rfl⟩
end Go.Proofs.YtmedljnbcpdoeaaDoor
