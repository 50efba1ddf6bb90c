/- Layer 14: the program's Since. -/
import Derived.Test.YtjkfgbmlhglnfaaSpR
namespace Go.Proofs.Ytjkfgbmlhglnfaa
open Go.RowKit Go.Shelf
set_option linter.unusedVariables false
set_option linter.unusedSimpArgs false
set_option maxRecDepth 100000
attribute [local go_sem] Oper.semAt_some

set_option maxHeartbeats 4000000 in
theorem since_14 {w : World} {q g : Nat} {vk : Value} {M : List (Itm × Value)} {last mark : Int} (fa fb : ByteArray) (t : Int) (h : Sp w q vk g M last mark) (hb : Bm 10000000 M) :
    Calls Try.prog 73 #[.pointer (some ⟨q, 0, none⟩), .string fa, .string fb, .int .i64 t] w fun e w' => e = .returned (.bool (snc14 M fa fb t)) ∧ Turn (fun _ => False) w w' := by
  refine (callsIn_wide (n := 3)).1 ?_
  refine callsIn_of_wp_marks Try.func73 rfl trivial ?_ rfl
  simp only [Try.ntmps73, List.size_toArray, List.length_cons, List.length_nil, Nat.reduceAdd, Nat.reduceSub, Array.replicate_succ, Array.replicate_zero, List.push_toArray, List.append_toArray, List.nil_append, List.cons_append]
  have HT := Lib.hid (fun W (hT : Turn (fun _ => False) w W) => made14 (h.still hT))
  have HS := Lib.hid h
  clear h
  gi_wp2_with fail
  refine ⟨trivial, ?_⟩
  gi_at_call 80
  refine (callsIn_wide.2 (HT.out _ (((Turn.refl _ _).alloc _).alloc _))).mono ?_
  rintro e w' ⟨rfl, rfl⟩
  gi_wp2_with fail
  refine ⟨trivial, ?_⟩
  gi_at_call 116
  refine (callsIn_wide.2 (withinFn14 _ rfl fa fb _)).mono ?_
  rintro e w1 ⟨rfl, rfl⟩
  gi_wp2_with fail
  have F5 : Hid (∃ W0, W0 = ((((w.alloc (.cells #[.int .i64 t] 3)).alloc (.cells #[.bool false] 4)).alloc (.cells #[.pointer (some ⟨q, 0, none⟩)] 69)).alloc (.cells #[.string fa] 9)).alloc (.cells #[.string fb] 9) ∧ Sp W0 q vk g M last mark ∧ W0.heap.size = w.heap.size + 5 ∧ Turn (fun _ => False) w W0 ∧ Blk W0 w.heap.size 3 [.int .i64 t] ∧ Blk W0 (w.heap.size + 1) 4 [.bool false] ∧ Blk W0 (w.heap.size + 1 + 1) 69 [.pointer (some ⟨q, 0, none⟩)] ∧ Blk W0 (w.heap.size + 1 + 1 + 1) 9 [.string fa] ∧ Blk W0 (w.heap.size + 1 + 1 + 2) 9 [.string fb]) := by
    have T0 : Turn (fun _ => False) w (((((w.alloc (.cells #[.int .i64 t] 3)).alloc (.cells #[.bool false] 4)).alloc (.cells #[.pointer (some ⟨q, 0, none⟩)] 69)).alloc (.cells #[.string fa] 9)).alloc (.cells #[.string fb] 9)) := (((((Turn.refl _ _).alloc _).alloc _).alloc _).alloc _).alloc _
    refine Lib.hid ⟨_, rfl, HS.out.still T0, by simp, T0, ?_, ?_, ?_, ?_, ?_⟩
    · exact ((((Blk.new w 3 [.int .i64 t]).alloc _).alloc _).alloc _).alloc _
    · exact (((Blk.new_ _ 4 [.bool false] (k := w.heap.size + 1) (by simp)).alloc _).alloc _).alloc _
    · exact ((Blk.new_ _ 69 [.pointer (some ⟨q, 0, none⟩)] (k := w.heap.size + 1 + 1) (by simp)).alloc _).alloc _
    · exact (Blk.new_ _ 9 [.string fa] (k := w.heap.size + 1 + 1 + 1) (by simp)).alloc _
    · exact Blk.new_ _ 9 [.string fb] (k := w.heap.size + 1 + 1 + 2) (by simp)
  obtain ⟨W0, hW0, fs, fz, ft, f0, f1, f3, f4, f5⟩ := F5.out
  rw [← hW0]
  clear F5 hW0
  have FX : Hid (∀ X, Turn (fun _ => False) W0 X → Sp X q vk g M last mark ∧ Blk X w.heap.size 3 [.int .i64 t] ∧ Blk X (w.heap.size + 1) 4 [.bool false] ∧ Rd14 X (w.heap.size + 1 + 1) (w.heap.size + 1 + 1 + 1) (w.heap.size + 1 + 1 + 2) q vk g (keysM M) fa fb) := Lib.hid (fun X hX => by
    have hs : Sp X q vk g M last mark := fs.still hX
    exact ⟨hs, f0.turn hX (fun e => e), f1.turn hX (fun e => e), rd14_of hs ((f3.turn hX (fun e => e)).cell 0) ((f4.turn hX (fun e => e)).cell 0) ((f5.turn hX (fun e => e)).cell 0)⟩)
  have hMb := hb.1
  have HBv : Hid (∀ p ∈ M, p.1.vs.length ≤ 10000000) := Lib.hid (fun p hp => (hb.2 p hp).1)
  have hr := HS.out.ord
  have HR := Lib.hid hr
  have HSN := Lib.hid (snc_rng hr fa fb t)
  clear f0 f1 f3 f4 f5 fs HT
  refine range14 (w.heap.size + 1 + 1) (w.heap.size + 1 + 1 + 1) (w.heap.size + 1 + 1 + 2) q g vk M fa fb rfl rfl hr (by omega) (fun p hp => by have := (hb.2 p hp).2; unfold maxLen; omega)
    (fun i X => Turn (fun _ => False) W0 X ∧ ((rngK M fa fb).take i).any (fun p => snc p.1.vs t) = false)
    (fun c i X => c = .ret ∧ snc14 M fa fb t = true ∧ Blk X (w.heap.size + 1) 4 [.bool true] ∧ Turn (fun k => k = w.heap.size + 1) W0 X)
    (fun i X Y row h hg hr => ⟨h.1.trans_new (grown_turn14 hg) (fun k hk e => by have := (hr k e).1; omega), h.2⟩)
    (fun c i X Y row h hg hr => ⟨h.1, h.2.1, blk_from14 h.2.2.1 hg (fun k e => (hr k e).2), h.2.2.2.trans_new (grown_turn14 hg) (fun k hk e => by have := (hr k e).1; omega)⟩)
    (fun i X h => by
      obtain ⟨k1, k2, k3, k4⟩ := FX.out X h.1
      exact ⟨k4, fun p hp => ⟨_, _, k1.map, ris_look hr (rng_mem hp)⟩⟩)
    ⟨Turn.refl _ _, rfl⟩ ?a1 ?assign ?body ?done ?stop
  case assign =>
    intro l p W K hK
    gi_wp2
    exact hK
  case body =>
    intro l i p W hp hI
    obtain ⟨h3, hany⟩ := hI
    obtain ⟨k1, k2, k3, k4⟩ := FX.out W h3
    have ct := k2.cell 0
    simp only [List.getElem?_cons_zero] at ct
    have hpm := rng_mem hp
    have hvv := (k1.vers p hpm).1.1
    have HAT := Lib.hid (since13 p.1.vs p.2 t W hvv (by have := HBv.out p hpm; omega))
    have HNX : Hid (((rngK M fa fb).take (i + 1)).any (fun p => snc p.1.vs t) = snc p.1.vs t) := Lib.hid (by rw [take_next hp, List.any_append, hany]; simp)
    have HTR : Hid (snc p.1.vs t = true → snc14 M fa fb t = true) := Lib.hid (fun hs => by rw [HSN.out]; exact List.any_eq_true.2 ⟨p, List.mem_of_getElem? hp, hs⟩)
    have H3 := Lib.hid h3
    have K3 := Lib.hid k3
    obtain ⟨⟨pk, pvs⟩, pv⟩ := p
    simp only at HNX HAT HTR
    generalize snc pvs t = sb at *
    clear hp h3 k1 k2 k3 k4 hpm hvv hany
    gi_wp2_with fail
    refine ⟨trivial, ?_⟩
    gi_at_call 117
    refine (CallsIn.inRound l (callsIn_wide.2 HAT.out)).mono ?_
    rintro e w3 ⟨rfl, ht3⟩
    have T3 := Lib.hid ht3
    have B3 := Lib.hid (K3.out.turn ht3 (fun h => h))
    have c3 := B3.out.cell 0
    have z3 := B3.out.free 0
    simp only [List.getElem?_cons_zero] at c3
    have KF : Hid (KeepsFrom W0.heap.size W w3) := Lib.hid ⟨T3.out.size, fun k o hk ho hc => (T3.out.block k (Array.getElem?_eq_some_iff.1 ho).1 (fun h => h)).trans ho⟩
    clear ht3
    cases sb with
    | false =>
      gi_wp2_with fail
      exact ⟨KF.out, H3.out.trans T3.out, HNX.out⟩
    | true =>
      gi_wp2_with fail
      have TS : Turn (fun k => k = w.heap.size + 1) w3 (w3.setCell ⟨w.heap.size + 1, 0, none⟩ (.bool true)) := (Turn.refl (fun k => k = w.heap.size + 1) w3).setCell (p := ⟨w.heap.size + 1, 0, none⟩) (.inl rfl) _
      refine ⟨KF.out.trans ⟨TS.size, fun k o hk ho hc => (TS.block k (Array.getElem?_eq_some_iff.1 ho).1 (fun e => by omega)).trans ho⟩, rfl, HTR.out trivial, B3.out.put 0 _, ((H3.out.trans T3.out).mono (fun k _ h => h.elim)).trans TS⟩
  case done =>
    intro D X hD hI hdf
    obtain ⟨h3, hany⟩ := hI
    obtain ⟨k1, k2, k3, k4⟩ := FX.out X h3
    have c3 := k3.cell 0
    have z3 := k3.free 0
    simp only [List.getElem?_cons_zero] at c3
    have HDF := Lib.hid hdf
    have H3 := Lib.hid h3
    have K3 := Lib.hid k3
    have HF : Hid (snc14 M fa fb t = false) := Lib.hid (by rw [HSN.out, ← hany, List.take_length])
    have hszX := h3.size
    clear h3 k1 k2 k3 k4 hdf hany
    gi_wp2_with fail
    have TS : Turn (fun k => k = w.heap.size + 1) X (X.setCell ⟨w.heap.size + 1, 0, none⟩ (.bool false)) := (Turn.refl (fun k => k = w.heap.size + 1) X).setCell (p := ⟨w.heap.size + 1, 0, none⟩) (.inl rfl) _
    have HD2 := (TS.block D (Array.getElem?_eq_some_iff.1 HDF.out).1 (fun e => by omega)).trans HDF.out
    have TP := put_turn14 (X.setCell ⟨w.heap.size + 1, 0, none⟩ (.bool false)) D (.deferred none)
    have cz := ((K3.out.put 0 (.bool false)).turn TP (fun e => by omega)).cell 0
    simp only [List.set_cons_zero, List.getElem?_cons_zero] at cz
    exact ret_mark14 (D := D) (v := .bool false) HD2 rfl (by simp [results, Try.results73, go_sem, cz]) ⟨by rw [HF.out], ((ft.trans H3.out).trans_new TS (fun k hk e => by omega)).trans_new TP (fun k hk e => by omega)⟩
  case stop =>
    intro D c i X hD hi hI hdf
    obtain ⟨rfl, hsn, h1, h3⟩ := hI
    have HDF := Lib.hid hdf
    have H1 := Lib.hid h1
    have H3 := Lib.hid h3
    have HF := Lib.hid hsn
    have c3 := h1.cell 0
    have z3 := h1.free 0
    simp only [List.getElem?_cons_zero] at c3
    clear h1 h3 hdf hsn
    gi_wp2_with fail
    have TP := put_turn14 X D (.deferred none)
    have cz := (H1.out.turn TP (fun e => by omega)).cell 0
    simp only [List.getElem?_cons_zero] at cz
    exact ret_mark14 (D := D) (v := .bool true) HDF.out rfl (by simp [results, Try.results73, go_sem, cz]) ⟨by rw [HF.out], (ft.trans_new H3.out (fun k hk e => by omega)).trans_new TP (fun k hk e => by omega)⟩
theorem since_14n {w : World} {v : Value} (fa fb : ByteArray) (t : Int) (h : Nos w v) :
    Calls Try.prog 73 #[v, .string fa, .string fb, .int .i64 t] w fun e w' => e = .returned (.bool false) ∧ Turn (fun _ => False) w w' := by
  have HT := Lib.hid (fun W (hT : Turn (fun _ => False) w W) => made14_no (h.still hT))
  clear h
  go_enter Try.func73, Try.ntmps73
  go_wp2_with (go_at_call 80; refine (HT.out _ (((Turn.refl _ _).alloc _).alloc _)).mono ?_; rintro e w' ⟨rfl, rfl⟩)
  exact bodyPost_ret (v := .bool false) (by simp [results, Try.results73, go_sem]) rfl ⟨rfl, ((Turn.refl _ _).alloc _).alloc _⟩
end Go.Proofs.Ytjkfgbmlhglnfaa
/- Layer 14: the program's Items. (mkSpU.py) -/
namespace Go.Proofs.Ytjkfgbmlhglnfaa
open Go.RowKit Go.Shelf
set_option linter.unusedVariables false
set_option linter.unusedSimpArgs false
set_option maxRecDepth 100000
attribute [local go_sem] Oper.semAt_some

theorem step_app14 {w : World} {ops : Array Oper} {o : Oper} {a : Act} {K : Act → World → Prop} {Q : Exit → Act → World → Prop} {E : Prop}
    (hg : o.guard = none) (s x : Operand) (t : TypeId) (hop : o.op = Op.call { callee := Callee.builtin Builtin.append, args := #[s, x], argTypes := #[t, t] })
    (B T : Nat) (z : Value) (size bytes : Nat) (hu : Try.prog.underlying t = some (.slice T)) (hi : (Try.prog.info? T).map (fun i => (i.zero, i.size, i.bytes)) = some (some z, size, bytes)) (hz : z.cells.size = size) (hp : 0 < size) (hby : bytes ≤ 1000)
    (v : Value) (k : Nat) (xs : List Value) (hs : a.eval s = v) (hown : w.ownsRow B T size v k xs) (b : Nat) (news : List Value) (hx : a.eval x = .slice (some ⟨b, 0, none⟩) 1 1) (hb : Blk w b T news) (hl : news.length = size) (h1c : ∀ u ∈ news, u.oneCell' = true) (hk : k ≤ 100000000) (hB : B ≤ w.heap.size)
    (hK : ∀ A' c' w', w'.ownsRow B T size (.slice A' (k + 1) c') (k + 1) (xs ++ news) → Turn (fun j => v.ownBlock = some j) w w' → ((Value.slice A' (k + 1) c').ownBlock = v.ownBlock ∨ (Value.slice A' (k + 1) c').ownBlock = some w.heap.size) → K (a.put o.dst (.slice A' (k + 1) c')) w') :
    if Region.wanted o (yielded ops a.tmps) = true then Oper.wp Try.prog o a w K Q else E := by
  have hw : Region.wanted o (yielded ops a.tmps) = true := by simp [Region.wanted, hg]
  rw [if_pos hw]
  obtain ⟨i0, hi0, hz0, hs0, hb0⟩ := parts14 hi
  obtain ⟨v', w', hrun, h1, h2, h3⟩ := run_app_rc (P := Try.prog) (w := w) B t o.type T i0 z size bytes hu hi0 hz0 hs0 hb0 hz hp v k xs hown (some ⟨b, 0, none⟩) 1 1 news (by omega) hb.rc h1c (by unfold maxLen; omega) (Nat.le_trans (Nat.mul_le_mul (show k + 1 ≤ 100000001 from by omega) hby) (by decide)) hB
  obtain ⟨A', c', rfl⟩ := own_slice_ h1
  unfold Oper.wp execOp
  simp only [hop, resolve, invoke, builtin, Sem.run_bind, Sem.run_pure, Result.andThen_ok, List.map_toArray, List.map_cons, List.map_nil, hs, hx, hrun]
  exact hK A' c' w' h1 h2 h3
theorem vr_grown14 {W W' : World} {v : Value} {L : List Vn} {row : Option Nat} (h : Vr W v L) (hg : W.grownBy W' row) (hr : ∀ k, row = some k → ∃ o : Obj, W.heap[k]? = some o ∧ o.isCells = false) : Vr W' v L := by
  refine h.turn (grown_turn14 hg) (fun hp b hb e => ?_)
  obtain ⟨o, ho, hc⟩ := hr b e
  obtain ⟨A, c, rfl, hl, hcc⟩ := h
  obtain ⟨b', o', rfl, hb', hx⟩ := hcc hp
  cases hb
  obtain ⟨x, hx0⟩ : ∃ x, L[0]? = some x := ⟨_, List.getElem?_eq_getElem hp⟩
  have hcell := (hx 0 x hx0).1
  cases o with
  | cells cs t fr => cases hc
  | _ => simp [World.cell?, ho] at hcell
/-- Items that a box holds, as a loop lays them. -/
def Ji14 (W0 : World) (r : Nat) (L : List Itm) (X : World) : Prop := ∃ v Ms, Blk X r 22 [v] ∧ Io W0.heap.size X v Ms ∧ Ms.map (·.1) = L ∧ (∀ p ∈ Ms, Cv p.2 ∧ (0 < p.1.vs.length → ∀ b, vb p.2 = some b → W0.heap.size ≤ b)) ∧ Turn (fun k => k = r) W0 X
theorem ji_from14 {W0 : World} {r : Nat} {L : List Itm} {X Y : World} {row : Option Nat} (h : Ji14 W0 r L X) (hg : X.grownBy Y row) (hr : ∀ k, row = some k → W0.heap.size ≤ k ∧ ∃ o : Obj, X.heap[k]? = some o ∧ o.isCells = false) : Ji14 W0 r L Y := by
  obtain ⟨v, Ms, h1, h2, h3, h4, h5⟩ := h
  exact ⟨v, Ms, blk_from14 h1 hg (fun k e => (hr k e).2), ⟨own_grown14 h2.1 hg (fun k e => (hr k e).2), fun p hp => ⟨vr_grown14 (h2.2 p hp).1 hg (fun k e => (hr k e).2), (h2.2 p hp).2⟩⟩, h3, h4, h5.trans_new (grown_turn14 hg) (fun k hk e => by have := (hr k e).1; omega)⟩
theorem ji_step14 {W0 W w7 w8 : World} {r n c : Nat} {A : Option Addr} {L : List Itm} {Ms : List (Itm × Value)} {z : Itm} {u : Value} {A8 : Option Addr} {c8 : Nat} {o : Obj} (h1 : Blk W r 22 [.slice A n c]) (h2 : Io W0.heap.size W (.slice A n c) Ms) (hn : Ms.length = n) (h3 : Turn (fun k => k = r) W0 W) (hr : r < W0.heap.size) (hL : Ms.map (·.1) = L)
    (h4 : ∀ p ∈ Ms, Cv p.2 ∧ (0 < p.1.vs.length → ∀ b, vb p.2 = some b → W0.heap.size ≤ b)) (hv : Vr w7 u z.vs) (hw : Cw W.heap.size u) (t7 : Turn (fun _ => False) W w7)
    (h8 : w8.ownsRow W0.heap.size 40 2 (.slice A8 (n + 1) c8) (n + 1) (Ms.flatMap ic ++ [.string z.k, u])) (t8 : Turn (fun j => (Value.slice A n c).ownBlock = some j) (w7.alloc o) w8) (hp8 : (Value.slice A8 (n + 1) c8).ownBlock = (Value.slice A n c).ownBlock ∨ (Value.slice A8 (n + 1) c8).ownBlock = some (w7.alloc o).heap.size) :
    w8.cell? ⟨r, 0, none⟩ = some (.slice A n c) ∧ w8.frozen? ⟨r, 0, none⟩ = false ∧ KeepsFrom W0.heap.size W (w8.setCell ⟨r, 0, none⟩ (.slice A8 (n + 1) c8)) ∧ Ji14 W0 r (L ++ [z]) (w8.setCell ⟨r, 0, none⟩ (.slice A8 (n + 1) c8)) := by
  have hsz := h3.size
  have hne : ¬ (Value.slice A n c).ownBlock = some r := fun e => by have := (own_ge9 h2.1 r e).1; omega
  have b8 : Blk w8 r 22 [.slice A n c] := ((h1.turn t7 (fun h => h)).alloc o).turn t8 hne
  have T8 : Turn (fun k => (Value.slice A n c).ownBlock = some k) W w8 := ((t7.mono (fun k _ h => h.elim)).alloc o).trans t8
  have TS : Turn (fun k => k = r) w8 (w8.setCell ⟨r, 0, none⟩ (.slice A8 (n + 1) c8)) := (Turn.refl (fun k => k = r) w8).setCell (p := ⟨r, 0, none⟩) (.inl rfl) _
  have TW : Turn (fun k => (Value.slice A n c).ownBlock = some k ∨ k = r) W (w8.setCell ⟨r, 0, none⟩ (.slice A8 (n + 1) c8)) := (T8.mono (fun k _ h => .inl h)).trans_new TS (fun k _ h => .inr h)
  have hown := own_ge9 h2.1
  have hs7 : W.heap.size ≤ w7.heap.size := t7.size
  have hlz : (w7.alloc o).heap.size = w7.heap.size + 1 := World.size_alloc _ _
  refine ⟨b8.cell 0, b8.free 0, ⟨TW.size, fun k o hk ho hc => ?_⟩, _, Ms ++ [(z, u)], b8.put 0 _, ⟨?_, fun p hp => ?_⟩, by rw [List.map_append, hL]; rfl, fun p hp => ?_, h3.trans_new TW (fun k hk h => ?_)⟩
  · rw [TW.block k (Array.getElem?_eq_some_iff.1 ho).1 (fun h => by
      rcases h with h | h
      · rw [own_far14 h2.1 k o h ho] at hc
        cases hc
      · omega)]
    exact ho
  · rw [List.length_append, hn, List.flatMap_append]
    obtain ⟨hl, ⟨e, h0⟩ | ⟨g, cap, cur, e, hB, hh, hrest⟩⟩ := h8
    · exact ⟨hl, .inl ⟨e, h0⟩⟩
    · exact ⟨hl, .inr ⟨g, cap, cur, e, hB, (TS.block g (Array.getElem?_eq_some_iff.1 hh).1 (fun e => by omega)).trans hh, hrest⟩⟩
  · rcases List.mem_append.1 hp with hp | hp
    · obtain ⟨k1, k2⟩ := h2.2 p hp
      refine ⟨(k1.turn T8 (fun h b hb e => k2 h b hb e)).turn TS (fun h b hb e => by have := (h4 p hp).2 h b hb; omega), fun h b hb e => ?_⟩
      rcases hp8 with e8 | e8
      · rw [e8] at e
        exact k2 h b hb e
      · rw [e8] at e
        obtain ⟨b', e1, hlt⟩ := k1.at_ h
        rw [hb] at e1
        cases e1
        cases e
        omega
    · simp at hp
      subst hp
      have hge : 0 < z.vs.length → ∀ b, vb u = some b → W.heap.size ≤ b ∧ b < w7.heap.size := fun h b hb => by
        obtain ⟨b', e1, hlt⟩ := hv.at_ h
        rw [hb] at e1
        cases e1
        obtain ⟨A', c', eu, _⟩ := hv
        subst eu
        cases A' with
        | none => cases hb
        | some ad =>
          cases hb
          exact ⟨(hw _ _ _ rfl).2 h ad rfl, hlt⟩
      refine ⟨((hv.still ((Turn.refl _ _).alloc o)).turn t8 (fun h b hb e => by have := (hge h b hb).1; have := (hown b e).2; omega)).turn TS (fun h b hb e => by have := (hge h b hb).1; omega), fun h b hb e => ?_⟩
      rcases hp8 with e8 | e8
      · rw [e8] at e
        have := (hge h b hb).1
        have := (hown b e).2
        omega
      · rw [e8] at e
        have := (hge h b hb).2
        cases e
        omega
  · rcases List.mem_append.1 hp with hp | hp
    · exact h4 p hp
    · simp at hp
      subst hp
      refine ⟨hw.cv, fun h b hb => ?_⟩
      obtain ⟨A', c', eu, _⟩ := hv
      simp only at h hb
      subst eu
      cases A' with
      | none => cases hb
      | some ad =>
        cases hb
        exact Nat.le_trans hsz ((hw _ _ _ rfl).2 h ad rfl)
  · rcases h with h | h
    · have := (hown k h).1
      omega
    · exact h
end Go.Proofs.Ytjkfgbmlhglnfaa
