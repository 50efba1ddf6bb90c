/- Layer 7: Rows. -/
import Derived.Test.YtjffdekonjejgaaDoorAlJ
namespace Go.Proofs.YtjffdekonjejgaaDoor
open Go.RowKit Go.Shelf
set_option linter.unusedVariables false
set_option maxRecDepth 100000
attribute [local go_sem] Oper.semAt_some

def rc7 (x : Nat × Nat) : List Value := [.int .i64 (x.1 : Int), .int .i64 (x.2 : Int)]
theorem len_rc7 (l : List (Nat × Nat)) : (l.flatMap rc7).length = l.length * 2 := by
  induction l with
  | nil => rfl
  | cons x l ih => rw [List.flatMap_cons, List.length_append, ih, List.length_cons]; simp [rc7]; omega
theorem info_pair : (Tryd.prog.info? 52).map (fun i => (i.zero, i.size, i.bytes)) = some (some (.agg #[.int .i64 0, .int .i64 0]), 2, 16) := by kernel_rfl
theorem own_turn7 {w w' : World} {base e size n : Nat} {v : Value} {xs : List Value} {S : Nat → Prop} (h : w.ownsRow base e size v n xs) (ht : Turn S w w') (hne : ∀ k, v.ownBlock = some k → ¬ S k) : w'.ownsRow base e size v n xs := by
  refine ⟨h.1, ?_⟩
  rcases h.2 with hn | ⟨g, cap, cur, rfl, hb, hgg, rest⟩
  · exact .inl hn
  · refine .inr ⟨g, cap, cur, rfl, hb, ?_, rest⟩
    rw [ht.block g (Array.getElem?_eq_some_iff.1 hgg).1 (hne g rfl)]
    exact hgg
theorem own_base7 {w : World} {base e size n : Nat} {v : Value} {xs : List Value} (h : w.ownsRow base e size v n xs) : ∀ k, v.ownBlock = some k → base ≤ k := by
  intro k hk
  rcases h.2 with ⟨rfl, _⟩ | ⟨g, cap, cur, rfl, hb, _⟩
  · simp [Value.ownBlock] at hk
  · simp [Value.ownBlock] at hk; omega
theorem own_low7 {w : World} {base b2 e size n : Nat} {v : Value} {xs : List Value} (h : w.ownsRow base e size v n xs) (hb : b2 ≤ base) : w.ownsRow b2 e size v n xs := by
  refine ⟨h.1, ?_⟩
  rcases h.2 with hn | ⟨g, cap, cur, rfl, h1, hrest⟩
  · exact .inl hn
  · exact .inr ⟨g, cap, cur, rfl, by omega, hrest⟩
theorem own_far7 {w : World} {base e size n : Nat} {v : Value} {xs : List Value} (h : w.ownsRow base e size v n xs) : ∀ k o, v.ownBlock = some k → w.heap[k]? = some o → o.isCells = true := by
  intro k o hk ho
  rcases h.2 with ⟨rfl, _⟩ | ⟨g, cap, cur, rfl, hb, hgg, _⟩
  · simp [Value.ownBlock] at hk
  · simp [Value.ownBlock] at hk
    subst hk
    rw [hgg] at ho
    injection ho with ho
    rw [← ho]; rfl
theorem own_slice7 {w : World} {base e size n : Nat} {v : Value} {xs : List Value} (h : w.ownsRow base e size v n xs) : ∃ A c, v = .slice A n c := by
  rcases h.2 with ⟨e1, e2⟩ | ⟨b, c, cur, e1, _⟩
  · exact ⟨none, 0, by rw [e1, e2]⟩
  · exact ⟨_, _, e1⟩
def RsI (W0 : World) (r n : Nat) (pre : List (Rw n)) (W : World) : Prop :=
  ∃ v, Blk W r 39 [v] ∧ W.ownsRow (r + 2) 52 2 v pre.length ((pre.map Rw.f).flatMap rc7) ∧ Turn (fun k => k = r) W0 W
theorem rsI_own (W0 : World) (r n B : Nat) (hB : W0.heap.size ≤ B) (ps : List (Rw n)) (W W' : World) (row : Option Nat) (hs : RsI W0 r n ps W) (hg : W.grownBy W' row) (hr : ∀ k, row = some k → B ≤ k ∧ ∃ o : Obj, W.heap[k]? = some o ∧ o.isCells = false) : RsI W0 r n ps W' := by
  obtain ⟨v, h1, h2, h3⟩ := hs
  refine ⟨v, blk_own7 h1 hg (fun k e => (hr k e).2), own_turn7 h2 (grown_turn7 hg) (fun k hk e => ?_), h3.trans_new (grown_turn7 hg) (fun k hk e => by have := (hr k e).1; omega)⟩
  obtain ⟨_, o, ho, hc⟩ := hr k e
  rw [own_far7 h2 k o hk ho] at hc
  cases hc
theorem rows7_len (t : List Bool) (i r : Nat) : (rw7 i r t).length ≤ t.length := by
  induction t generalizing i r with
  | nil => exact Nat.le_refl _
  | cons b t ih =>
    cases b with
    | true => rw [rw7, List.length_cons]; have := ih (i + 1) (r + 1); omega
    | false =>
      rw [rw7, List.length_append, List.length_cons]
      have := ih (i + 1) 0
      split <;> simp <;> omega
theorem rowsList7_no {w : World} {v : Value} (h : Noa w v) :
    Calls Tryd.prog 15 #[v] w fun r w' => r = .returned (.slice none 0 0) ∧ w' = w := by
  have HM := Lib.hid (made7_no h)
  clear h
  go_enter Tryd.func15, Tryd.ntmps15
  go_wp2_with (go_at_call 27; refine HM.out.mono ?_; rintro e w' ⟨rfl, rfl⟩)
  go_ret
  exact ⟨rfl, rfl⟩
set_option maxHeartbeats 2000000 in
theorem rowsList7 {w : World} {p g : Nat} {l : List Bool} (h : Al w p g l) :
    Calls Tryd.prog 15 #[.pointer (some ⟨p, 0, none⟩)] w fun r w' => ∃ v, r = .returned v ∧ w'.ownsRow w.heap.size 52 2 v (rows7 l).length ((rows7 l).flatMap rc7) ∧ Turn (fun _ => False) w w' := by
  have hgl := h.ltg
  have hpl := h.ltp
  have hle := h.le
  have hrl : (rows7 l).length ≤ 16385 := by
    have := rows7_len (l ++ [false]) 0 0
    simp only [List.length_append, List.length_cons, List.length_nil] at this
    unfold rows7
    omega
  refine (callsIn_wide (n := 3)).1 ?_
  refine callsIn_of_wp_marks Tryd.func15 rfl trivial ?_ rfl
  simp only [Tryd.ntmps15, List.size_toArray, List.length_cons, List.length_nil, Nat.reduceAdd, Nat.reduceSub, Array.replicate_succ, Array.replicate_zero, List.push_toArray, List.append_toArray, List.nil_append, List.cons_append]
  have HM := Lib.hid (made7 h)
  have HA := Lib.hid h
  clear h
  gi_wp2_with fail
  refine ⟨trivial, ?_⟩
  gi_at_call 27
  refine (callsIn_wide.2 HM.out).mono ?_
  rintro e w' ⟨rfl, rfl⟩
  gi_wp2_with fail
  refine ⟨trivial, ?_⟩
  gi_at_call 29
  refine (callsIn_wide.2 (rowsFn7 _ rfl _)).mono ?_
  rintro e w1 ⟨rfl, rfl⟩
  gi_wp2_with fail
  have F5 : Hid (∃ W0, W0 = (w'.alloc (.cells #[.slice none 0 0] 39)).alloc (.cells #[.pointer (some ⟨p, 0, none⟩)] 23) ∧ Al W0 p g l ∧ W0.heap.size = w'.heap.size + 2 ∧ Turn (fun _ => False) w' W0 ∧ Blk W0 w'.heap.size 39 [.slice none 0 0] ∧ Blk W0 (w'.heap.size + 1) 23 [.pointer (some ⟨p, 0, none⟩)]) :=
    Lib.hid ⟨_, rfl, HA.out.still (((Turn.refl _ _).alloc _).alloc _), by simp, ((Turn.refl _ _).alloc _).alloc _, (Blk.new w' 39 [.slice none 0 0]).alloc _, Blk.new_ _ 23 [.pointer (some ⟨p, 0, none⟩)] (k := w'.heap.size + 1) (by simp)⟩
  obtain ⟨W0, hW0, fa, fs, ft, f0, f1⟩ := F5.out
  rw [← hW0]
  clear F5 hW0 HM
  refine wpIn_rangeFunc_ownG (F := Fence.wide) (n := 3) rfl (by decide) (gf := 34) (lb := #[.pointer (some ⟨w'.heap.size + 1, 0, none⟩)]) rfl trivial (enters_of Tryd.func34 (by kernel_rfl) rfl)
    (rows_stops p g (w'.heap.size + 1) l W0 fa (f1.cell 0)) (fun h1 h2 => Turn.trans h1 h2) (fun W b o o' hl ho hc1 hc2 => (put_turn7 W b o').mono (fun k _ hk h3 => by subst hk; rcases h3 with h3 | h3 <;> omega)) (Below.refl _ _) (fun _ => rfl)
    (fun ps W => RsI W0 w'.heap.size l.length ps W) (fun c ps W => False)
    (fun ps W W' row hs hg hr => rsI_own W0 w'.heap.size l.length _ (Nat.le_refl _) ps W W' row hs hg hr)
    (fun c ps W W' row hs hg hr => hs)
    ⟨.slice none 0 0, f0, World.ownsRow_nil _ _ _ _, Turn.refl _ _⟩ ?a1 ?assign ?body ?done ?stop
  case assign =>
    intro L x W K hK
    gi_wp2
    exact hK
  case body =>
    intro L pre x W hI hlen
    obtain ⟨v, h1, h2, h3⟩ := hI
    obtain ⟨i0, hi, hz, hs, hb⟩ := info_parts_ info_pair
    have HI := Lib.hid hi
    have HZ := Lib.hid hz
    have HS := Lib.hid hs
    have HB := Lib.hid hb
    obtain ⟨I, C, hIC⟩ := x
    obtain ⟨A, n, cap, rfl, hn⟩ : ∃ A n cap, v = .slice A n cap ∧ n = pre.length := by
      rcases h2.2 with ⟨e1, e2⟩ | ⟨b, c, cur, e1, _⟩
      · exact ⟨none, 0, 0, e1, e2.symm⟩
      · exact ⟨_, _, _, e1, rfl⟩
    rw [← hn] at h2
    have hn2 : n ≤ 16385 := by omega
    have HN := Lib.hid hn
    have HP : Hid (((pre ++ [(⟨I, C, hIC⟩ : Rw l.length)]).map Rw.f).flatMap rc7 = (pre.map Rw.f).flatMap rc7 ++ [.int .i64 I, .int .i64 C] ∧ (pre ++ [(⟨I, C, hIC⟩ : Rw l.length)]).length = n + 1) := Lib.hid ⟨by rw [List.map_append, List.flatMap_append]; rfl, by simp [hn]⟩
    have c0 := h1.cell 0
    have z0 := h1.free 0
    simp only [List.getElem?_cons_zero] at c0
    have H1 := Lib.hid h1
    have H2 := Lib.hid h2
    have H3 := Lib.hid h3
    have hrs := h1.lt
    generalize (pre.map Rw.f).flatMap rc7 = xs at *
    have NB := Lib.hid (Blk.new W 52 [.int .i64 I, .int .i64 C])
    have HNC : Hid (∀ (j : Nat) (u : Value), [Value.int .i64 (I : Int), Value.int .i64 (C : Int)][j]? = some u → (W.alloc (.cells #[.int .i64 I, .int .i64 C] 52)).cell? ((⟨W.heap.size, 0, none⟩ : Addr).add j) = some u) := Lib.hid (fun j u hu => by
      rw [Addr.add_mid, Nat.zero_add, NB.out.cell]
      exact hu)
    clear hi hz hs hb h1 h2 h3 hn hlen
    gi_wp2_with (refine wpListIn_append_own (W.alloc (.cells #[.int .i64 I, .int .i64 C] 52)) rfl (.tmp 13) (.tmp 17) 39 rfl (w'.heap.size + 2) 52 i0 _ 2 16 Tryd.underlying39 HI.out HZ.out HS.out HB.out (by rfl) (by decide) (.slice A n cap) n xs rfl (H2.out.alloc _) ⟨W.heap.size, 0, none⟩ 1 1 [.int .i64 (I : Int), .int .i64 (C : Int)] rfl rfl HNC.out (by simp [Value.oneCell']) (by unfold maxLen; omega) (by omega) (by rw [World.size_alloc]; have := H3.out.size; omega) ?_; intro v5 w5 ho5 hg5 hv5; clear hv5; obtain ⟨A5, c5, rfl⟩ := own_slice7 ho5; have HO5 := Lib.hid ho5; have HT5 := Lib.hid (grown_turn7 hg5); have hne5 := (fun h => by have := own_base7 H2.out _ h; omega : ¬ (Value.slice A n cap).ownBlock = some w'.heap.size); have HB5 := Lib.hid ((H1.out.alloc (.cells #[.int .i64 I, .int .i64 C] 52)).turn (grown_turn7 hg5) hne5); have c5x := HB5.out.cell 0; have z5x := HB5.out.free 0; simp only [List.getElem?_cons_zero] at c5x; clear ho5 hg5 hne5)
    have TS : Turn (fun k => k = w'.heap.size) w5 (w5.setCell ⟨w'.heap.size, 0, none⟩ (.slice A5 (n + 1) c5)) := (Turn.refl (fun k => k = w'.heap.size) w5).setCell (p := ⟨w'.heap.size, 0, none⟩) (.inl rfl) _
    have hob := own_base7 H2.out
    have TW : Turn (fun k => (Value.slice A n cap).ownBlock = some k ∨ k = w'.heap.size) W (w5.setCell ⟨w'.heap.size, 0, none⟩ (.slice A5 (n + 1) c5)) :=
      (((Turn.refl _ W).alloc _).trans_new HT5.out (fun k _ h => .inl h)).trans_new TS (fun k _ h => .inr h)
    have hsz := H3.out.size
    refine ⟨⟨TW.size, fun k o hk ho hc => ?_⟩, TW.mono (fun k hk h h3 => ?_), ⟨_, HB5.out.put 0 _, ?_, H3.out.trans_new TW (fun k hk h => ?_)⟩⟩
    · rw [TW.block k (Array.getElem?_eq_some_iff.1 ho).1 (fun h => by
        rcases h with h | h
        · rw [own_far7 H2.out k o h ho] at hc
          cases hc
        · omega)]
      exact ho
    · rcases h with h | h
      · have := hob k h
        rcases h3 with h3 | h3 <;> omega
      · rcases h3 with h3 | h3 <;> omega
    · rw [HP.out.1, HP.out.2]
      exact own_turn7 HO5.out TS (fun k hk e => by have := own_base7 HO5.out k hk; omega)
    · rcases h with h | h
      · have := hob k h
        omega
      · exact h
  case done =>
    intro D xs W hD hS hI hdf
    obtain ⟨v, h1, h2, h3⟩ := hI
    have c0 := h1.cell 0
    simp only [List.getElem?_cons_zero] at c0
    have HDF := Lib.hid hdf
    have H1 := Lib.hid h1
    have H2 := Lib.hid h2
    have H3 := Lib.hid h3
    have HSS := Lib.hid hS
    obtain ⟨A, n, cap, rfl⟩ : ∃ A n cap, v = .slice A n cap := by
      rcases h2.2 with ⟨e1, e2⟩ | ⟨b, c, cur, e1, _⟩
      · exact ⟨none, 0, 0, e1⟩
      · exact ⟨_, _, _, e1⟩
    clear h1 h2 h3 hdf hS
    gi_wp2_with fail
    have TP := put_turn7 W D (.deferred none)
    refine ret_mark7 (D := D) (v := .slice A n cap) HDF.out rfl (by simp [results, Tryd.results15, go_sem]) ?_
    refine ⟨_, rfl, ?_, (ft.trans_new H3.out (fun k hk h => by omega)).trans_new TP (fun k hk h => by omega)⟩
    have h2 := H2.out
    have hlen : xs.length = (rows7 l).length := by rw [← HSS.out, List.length_map]
    rw [HSS.out, hlen] at h2
    refine own_turn7 (own_low7 h2 (by omega)) TP (fun k hk e => ?_)
    subst e
    have := own_far7 h2 k _ hk HDF.out
    cases this
  case stop =>
    intro D c pre W hD hS hI hdf
    exact hI.elim
end Go.Proofs.YtjffdekonjejgaaDoor
