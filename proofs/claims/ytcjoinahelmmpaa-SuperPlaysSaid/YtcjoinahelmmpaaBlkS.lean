/- Layer 4: the document's disk: Write. -/
import Derived.Test.YtcjoinahelmmpaaBlkR
import Derived.Laws.AppendOwnNone
namespace Go.Proofs.Ytcjoinahelmmpaa
open Go.RowKit Go.Maps
set_option linter.unusedVariables false

section
variable {P : Program} {w : World}
/-- An append of a whole row to an own one, the source nil too. -/
theorem wpList_app_row {ops : Array Oper} {rest : List Oper} {o : Oper} {a : Act} {Q : Exit → Act → World → Prop} (hgd : o.guard = none) (s x : Operand) (t : TypeId)
    (ho : o.op = .call { callee := .builtin .append, args := #[s, x], argTypes := #[t, t] })
    (base : Nat) (e : TypeId) (i : TypeInfo) (z : Value) (size bytes : Nat) (ht : P.underlying t = some (.slice e)) (hi : P.info? e = some i) (hz : i.zero = some z)
    (hsize : i.size = size) (hby : i.bytes = bytes) (hzs : z.cells.size = size) (hsz : 0 < size)
    (A : Option Addr) (n c : Nat) (xs : List Value) (hs : a.eval s = .slice A n c) (hown : w.ownsRow base e size (.slice A n c) n xs)
    (B : Option Addr) (m d : Nat) (news : List Value) (hx : a.eval x = .slice B m d) (hsrc : w.ownsRow 0 e size (.slice B m d) m news) (h1 : ∀ u ∈ news, u.oneCell' = true)
    (hbytes : (n + m) * bytes ≤ 140737488355328) (h63 : n + m ≤ maxLen) (hbase : base ≤ w.heap.size)
    (h : ∀ A' c' w', w'.ownsRow base e size (.slice A' (n + m) c') (n + m) (xs ++ news) → Turn (fun k => (Value.slice A n c).ownBlock = some k) w w' → wpList P ops Q rest (a.put o.dst (.slice A' (n + m) c')) w') :
    wpList P ops Q (o :: rest) a w := by
  have hsrc' := hsrc
  obtain ⟨hl, ⟨e0, h0⟩ | ⟨g, cap, cur, e0, _, hh, hnc, _, hcs, htk⟩⟩ := hsrc
  · injection e0 with e1 e2 e3
    subst e1 h0 e3
    rw [Nat.zero_mul] at hl
    obtain rfl := List.eq_nil_of_length_eq_zero hl
    refine wpList_append_own_none hgd s x t ho base e i size ht hi _ n xs hs hown hx ?_
    have := h A c w (by rw [List.append_nil]; exact hown) (Turn.refl _ _)
    exact this
  · injection e0 with e1 e2 e3
    subst e1 e3
    refine wpList_append_own_at w hgd s x t ho base e i z size bytes ht hi hz hsize hby hzs hsz _ n xs hs hown ⟨g, 0, none⟩ m d news hx hl (fun j u hu => ?_) h1 h63 hbytes hbase ?_
    · rw [Addr.add_mid]
      obtain ⟨g', eg, hc⟩ := own_at_ hsrc' hu
      injection eg with eg
      injection eg with eg
      subst eg
      simpa using hc
    · intro v' w' ho' hg' _ _
      have ht' : Turn (fun k => (Value.slice A n c).ownBlock = some k) w w' := turn_grown_ hg'
      obtain ⟨hl', ⟨rfl, h0⟩ | ⟨g', c', cur', rfl, hr⟩⟩ := ho'
      · have := h none 0 w' (by rw [h0] at hl' ⊢; exact ⟨hl', .inl ⟨rfl, rfl⟩⟩) ht'
        rw [h0] at this
        exact this
      · exact h _ _ w' ⟨hl', .inr ⟨g', c', cur', rfl, hr⟩⟩ ht'
end
theorem info_rw : (Try.prog.info? 93).map (fun i => (i.zero, i.size, i.bytes)) = some (some (.agg #[.int .i64 0, .string ⟨#[]⟩]), 2, 24) := by kernel_rfl
theorem one_pv (x : Nat × List UInt8) : ∀ u ∈ pv x, u.oneCell' = true := fun u hu => by
  simp [pv] at hu; rcases hu with rfl | rfl <;> rfl
theorem one_pvs (l : List (Nat × List UInt8)) : ∀ u ∈ l.flatMap pv, u.oneCell' = true := fun u hu => by
  obtain ⟨x, _, hx⟩ := List.mem_flatMap.1 hu; exact one_pv x u hx
theorem own_new_ {w : World} {t s : Nat} : (w.alloc (.cells #[] t)).ownsRow w.heap.size t s (.slice (some ⟨w.heap.size, 0, none⟩) 0 0) 0 [] :=
  ⟨by simp, .inr ⟨_, 0, #[], rfl, Nat.le_refl _, heap_alloc_new w _, Nat.le_refl _, by simp [maxLen], by simp, by simp⟩⟩
set_option maxRecDepth 100000 in
set_option maxHeartbeats 4000000 in
theorem writeRef_r {w : World} {D : Dsk} {ks : List (List UInt8)} {A B : Option Addr} {c d : Nat} (h : Rm w D ks A c B d) (i : Nat) (hi : i < D.kept.length) (hp : D.pend.length ≤ 1000000) (F : Int) (hF : -9223372036854775808 ≤ F ∧ F ≤ 9223372036854775807) (hF0 : F ≠ 0) (s : ByteArray) (hs : s.size ≤ 128) :
    Calls Try.prog 19 #[.agg #[.int .i64 D.kept.length, .slice A ks.length c, .slice B D.pend.length d, .int .i64 F, .bool false], .int .i64 i, .string s] w fun e w' => ∃ B' d', e = .returned (.tuple #[.agg #[.int .i64 D.kept.length, .slice A ks.length c, .slice B' (D.pend.length + 1) d', .int .i64 (if 0 < F then F - 1 else F), .bool false], .int .i64 0]) ∧ w'.ownsRow w.heap.size 93 2 (.slice B' (D.pend.length + 1) d') (D.pend.length + 1) ((D.pend ++ [(i, full s.data.toList)]).flatMap pv) ∧ Turn (fun _ => False) w w' := by
  have HB : Hid (∀ W, Calls Try.prog 44 #[.agg #[.int .i64 D.kept.length, .slice A ks.length c, .slice B D.pend.length d, .int .i64 F, .bool false]] W fun e w' => e = .returned (.tuple #[.agg #[.int .i64 D.kept.length, .slice A ks.length c, .slice B D.pend.length d, .int .i64 (if 0 < F then F - 1 else F), .bool false], .bool true]) ∧ Turn (fun _ => False) W w') := Lib.hid (fun W => by
    have := burn_r D.kept.length A B ks.length c D.pend.length d F false hF W
    rw [decide_eq_false hF0] at this
    exact this)
  obtain ⟨F', hF'⟩ : ∃ F', (if 0 < F then F - 1 else F) = F' := ⟨_, rfl⟩
  rw [hF'] at HB ⊢
  have hi0 : (0 : Int) ≤ (i : Int) := Int.natCast_nonneg _
  have hi1 : (i : Int) < (D.kept.length : Int) := by omega
  have hs1 : (s.size : Int) ≤ 128 := by omega
  have HFU := Lib.hid (full_r s hs)
  have HP := Lib.hid (fun W (ht : Turn (fun _ => False) w W) => (h.still ht).pend)
  have HW0 := Lib.hid (Blk.new w 46 [.int .i64 D.kept.length, .slice A ks.length c, .slice B D.pend.length d, .int .i64 F, .bool false])
  obtain ⟨G, hG⟩ : ∃ G, full s.data.toList = G := ⟨_, rfl⟩
  rw [hG] at HFU ⊢
  clear h hF' hi hs hG
  go_enter Try.func19, Try.ntmps19
  go_wp2_with fail
  refine (HB.out _).mono ?_
  obtain ⟨X, hX⟩ : ∃ X : Array Value, #[.int .i64 (D.kept.length : Int), .slice A ks.length c, .slice B D.pend.length d, .int .i64 F', .bool false] = X := ⟨_, rfl⟩
  rw [hX]
  rintro e w1 ⟨rfl, ht1⟩
  have hb := HW0.out.alloc (.cells #[.int .i64 0, .slice none 0 0, .slice none 0 0, .int .i64 0, .bool false] 46)
  have hr := Blk.new_ (w.alloc (.cells #[.int .i64 D.kept.length, .slice A ks.length c, .slice B D.pend.length d, .int .i64 F, .bool false] 46)) 46 [.int .i64 0, .slice none 0 0, .slice none 0 0, .int .i64 0, .bool false] (k := w.heap.size + 1) (by simp)
  have hb1 := hb.turn ht1 (fun h => h)
  have hr1 := hr.turn ht1 (fun h => h)
  have T1 := Lib.hid (((((Turn.refl (fun _ => False) w).alloc (.cells #[.int .i64 D.kept.length, .slice A ks.length c, .slice B D.pend.length d, .int .i64 F, .bool false] 46)).alloc (.cells #[.int .i64 0, .slice none 0 0, .slice none 0 0, .int .i64 0, .bool false] 46))).trans ht1)
  have HB1 := Lib.hid hb1
  have HR1 := Lib.hid hr1
  have HTH : Hid (w1.there w.heap.size 0 X.size) := Lib.hid (by rw [← hX]; exact hb1.there 0 5 (by simp))
  have HO : Hid (X.all (·.oneCell') = true) := Lib.hid (by rw [← hX]; simp [Value.oneCell'])
  have HI : Hid ((Try.prog.info? 46).map (·.size) = some X.size) := Lib.hid (by rw [← hX]; kernel_rfl)
  have hb2 := Blk.setCells [.int .i64 D.kept.length, .slice A ks.length c, .slice B D.pend.length d, .int .i64 F', .bool false] 0 w1 _ hb1 (by simp)
  have tw := Turn.setCells (S := (· = w.heap.size)) (g := w.heap.size) [.int .i64 D.kept.length, .slice A ks.length c, .slice B D.pend.length d, .int .i64 F', .bool false] 0 (Turn.refl _ w1) (.inl rfl)
  obtain ⟨W1, hW1⟩ : ∃ W, w1.setCells w.heap.size 0 [.int .i64 D.kept.length, .slice A ks.length c, .slice B D.pend.length d, .int .i64 F', .bool false] = W := ⟨_, rfl⟩
  rw [hW1] at hb2 tw
  have hW2 : w1.setCells w.heap.size 0 X.toList = W1 := by rw [← hX]; exact hW1
  simp only [List.take, List.drop, List.length, List.nil_append, List.cons_append, Nat.zero_add] at hb2
  have HW2 := Lib.hid hW2
  have HB2 := Lib.hid hb2
  have HR2 := Lib.hid (hr1.turn tw (by omega))
  have T2 := Lib.hid (T1.out.trans_new tw (fun k hk e => by omega))
  have hb3 := hb2.alloc (.cells #[] 93)
  have b2 := hb3.cell 2
  simp only [List.getElem?_cons_zero, List.getElem?_cons_succ] at b2
  have hlt := HR2.out.lt
  have hne : w.heap.size ≠ W1.heap.size := by omega
  have HP1 := Lib.hid (ownsRow_turn (HP.out _ T2.out) ((Turn.refl (fun _ => False) W1).alloc (.cells #[] 93)) (fun _ _ h => h))
  obtain ⟨j0, hj, hjz, hjs, hjb⟩ := info_parts_ info_rw
  have HJ := Lib.hid hj
  have HJZ := Lib.hid hjz
  have HJS := Lib.hid hjs
  have HJB := Lib.hid hjb
  clear hb hr hb1 hr1 ht1 hX hW1 hW2 hb2 hb3 tw hj hjz hjs hjb
  go_wp2_with (first
    | (refine wpList_store_mid rfl 46 _ _ rfl w.heap.size 0 X rfl rfl HTH.out HI.out HO.out ?_; rw [HW2.out])
    | (at_builtin; refine wpList_app_row rfl _ _ 44 rfl W1.heap.size 93 j0 _ 2 24 Try.underlying44 HJ.out HJZ.out HJS.out HJB.out (by rfl) (by decide) (some ⟨W1.heap.size, 0, none⟩) 0 0 [] rfl own_new_ B D.pend.length d (D.pend.flatMap pv) rfl HP1.out (one_pvs _) (by omega) (by unfold maxLen; omega) (by simp) ?_; intro A3 c3 w3 ho3 ht3; simp only [Nat.zero_add, List.nil_append] at ho3; have O3 := Lib.hid ho3; have X3 := Lib.hid ht3; clear ho3 ht3)
    | (at_builtin; refine wpList_app_row rfl _ _ 44 rfl W1.heap.size 93 j0 _ 2 24 Try.underlying44 HJ.out HJZ.out HJS.out HJB.out (by rfl) (by decide) A3 D.pend.length c3 (D.pend.flatMap pv) rfl (ownsRow_turn O3.out (X4.out.alloc _) (fun _ _ h => h)) (some ⟨w4.heap.size, 0, none⟩) 1 1 (pv (i, G)) rfl (own_full_ (Blk.new w4 93 (pv (i, G))) rfl (by decide)) (one_pv _) (by omega) (by unfold maxLen; omega) (by have s3 := X3.out.size; have s4 := X4.out.size; simp at s3 ⊢; omega) ?_; intro A6 c6 w6 ho6 ht6; have O6 := Lib.hid ho6
       have TT : Turn (fun _ => False) W1 w6 := by
         have t3 : Turn (fun _ => False) W1 w3 := ((Turn.refl (fun _ => False) W1).alloc _).trans_new X3.out (fun k hk e => by simp [Value.ownBlock] at e; omega)
         exact ((t3.trans X4.out).alloc _).trans_new ht6 (fun k hk e => by have := own_ge_ O3.out _ e; omega)
       have hb6 := HB2.out.turn TT (fun h => h)
       have hr6 := HR2.out.turn TT (fun h => h)
       have HB6 := Lib.hid hb6
       have HR6 := Lib.hid hr6
       have b0 := hb6.cell 0
       have b1 := hb6.cell 1
       have b22 := hb6.cell 2
       have b3 := hb6.cell 3
       have b4 := hb6.cell 4
       have f2 := hb6.free 2
       have r0 := hr6.cell 0
       have r1 := hr6.cell 1
       have r2 := hr6.cell 2
       have r3 := hr6.cell 3
       have r4 := hr6.cell 4
       have g0 := hr6.free 0
       have g1 := hr6.free 1
       have g2 := hr6.free 2
       have g3 := hr6.free 3
       have g4 := hr6.free 4
       simp only [List.getElem?_cons_zero, List.getElem?_cons_succ] at b0 b1 b22 b3 b4 r0 r1 r2 r3 r4
       have TW := Lib.hid (T2.out.trans TT)
       clear ho6 ht6 hb6 hr6 TT b2)
    | (go_at_call 35; refine (HFU.out _).mono ?_; rintro e w4 ⟨rfl, ht4⟩; have X4 := Lib.hid ht4; clear ht4))
  have hf := (((((HR6.out.far (p := ⟨w.heap.size, 2, none⟩) (by simp) (.slice A6 (D.pend.length + 1) c6)).put 0 (.int .i64 (D.kept.length : Int))).put 1 (.slice A ks.length c)).put 2 (.slice A6 (D.pend.length + 1) c6)).put 3 (.int .i64 F')).put 4 (.bool false)
  have tf := ((((((Turn.refl (fun k => k = w.heap.size ∨ k = w.heap.size + 1) w6).setCell (p := ⟨w.heap.size, 2, none⟩) (.inl (.inl rfl)) (.slice A6 (D.pend.length + 1) c6)).setCell (p := ⟨w.heap.size + 1, 0, none⟩) (.inl (.inr rfl)) (.int .i64 (D.kept.length : Int))).setCell (p := ⟨w.heap.size + 1, 1, none⟩) (.inl (.inr rfl)) (.slice A ks.length c)).setCell (p := ⟨w.heap.size + 1, 2, none⟩) (.inl (.inr rfl)) (.slice A6 (D.pend.length + 1) c6)).setCell (p := ⟨w.heap.size + 1, 3, none⟩) (.inl (.inr rfl)) (.int .i64 F')).setCell (p := ⟨w.heap.size + 1, 4, none⟩) (.inl (.inr rfl)) (.bool false)
  have hown := ownsRow_turn (own_mono_ O6.out (B' := w.heap.size) (by omega)) tf (fun k hk e => by have := own_ge_ O6.out k hk; omega)
  have htt := TW.out.trans_new tf (fun k hk e => by omega)
  have e0 := hf.cell 0
  have e1 := hf.cell 1
  have e2 := hf.cell 2
  have e3 := hf.cell 3
  have e4 := hf.cell 4
  simp only [List.set_cons_zero, List.set_cons_succ, List.getElem?_cons_zero, List.getElem?_cons_succ] at e0 e1 e2 e3 e4
  have HG : (D.pend ++ [(i, G)]).flatMap pv = D.pend.flatMap pv ++ pv (i, G) := by rw [List.flatMap_append]; simp
  rw [← HG] at hown
  clear b0 b1 b22 b3 b4 f2 r0 r1 r2 r3 r4 g0 g1 g2 g3 g4 tf hf HG
  generalize ((((((w6.setCell ⟨w.heap.size, 2, none⟩ (.slice A6 (D.pend.length + 1) c6)).setCell ⟨w.heap.size + 1, 0, none⟩ (.int .i64 (D.kept.length : Int))).setCell ⟨w.heap.size + 1, 1, none⟩ (.slice A ks.length c)).setCell ⟨w.heap.size + 1, 2, none⟩ (.slice A6 (D.pend.length + 1) c6)).setCell ⟨w.heap.size + 1, 3, none⟩ (.int .i64 F')).setCell ⟨w.heap.size + 1, 4, none⟩ (.bool false)) = WF at *
  exact bodyPost_ret (v := .tuple #[.agg #[.int .i64 D.kept.length, .slice A ks.length c, .slice A6 (D.pend.length + 1) c6, .int .i64 F', .bool false], .int .i64 0]) (by simp [results, Try.results19, go_sem, e0, e1, e2, e3, e4]) rfl ⟨A6, c6, rfl, hown, htt⟩
/-! ### The fuse goes off. -/
set_option maxRecDepth 100000 in
set_option maxHeartbeats 4000000 in
theorem writeRef_off (N : Int) (A B : Option Addr) (n c m d : Nat) (i : Int) (h0 : 0 ≤ i) (h1 : i < N) (s : ByteArray) (hs : s.size ≤ 128) (w : World) :
    Calls Try.prog 19 #[.agg #[.int .i64 N, .slice A n c, .slice B m d, .int .i64 0, .bool false], .int .i64 i, .string s] w fun e w' => e = .returned (.tuple #[.agg #[.int .i64 N, .slice A n c, .slice B m d, .int .i64 0, .bool true], .int .i64 20]) ∧ Turn (fun _ => False) w w' := by
  have HB : Hid (∀ W, Calls Try.prog 44 #[.agg #[.int .i64 N, .slice A n c, .slice B m d, .int .i64 0, .bool false]] W fun e w' => e = .returned (.tuple #[.agg #[.int .i64 N, .slice A n c, .slice B m d, .int .i64 0, .bool true], .bool false]) ∧ Turn (fun _ => False) W w') := Lib.hid (fun W => burn_r N A B n c m d 0 false (by omega) W)
  have HW0 := Lib.hid (Blk.new w 46 [.int .i64 N, .slice A n c, .slice B m d, .int .i64 0, .bool false])
  have hs1 : (s.size : Int) ≤ 128 := by omega
  go_enter Try.func19, Try.ntmps19
  go_wp2_with fail
  refine (HB.out _).mono ?_
  obtain ⟨X, hX⟩ : ∃ X : Array Value, #[.int .i64 N, .slice A n c, .slice B m d, .int .i64 0, .bool true] = X := ⟨_, rfl⟩
  rw [hX]
  rintro e w1 ⟨rfl, ht1⟩
  have hb := HW0.out.alloc (.cells #[.int .i64 0, .slice none 0 0, .slice none 0 0, .int .i64 0, .bool false] 46)
  have hr := Blk.new_ (w.alloc (.cells #[.int .i64 N, .slice A n c, .slice B m d, .int .i64 0, .bool false] 46)) 46 [.int .i64 0, .slice none 0 0, .slice none 0 0, .int .i64 0, .bool false] (k := w.heap.size + 1) (by simp)
  have hb1 := hb.turn ht1 (fun h => h)
  have hr1 := hr.turn ht1 (fun h => h)
  have T1 := Lib.hid (((((Turn.refl (fun _ => False) w).alloc (.cells #[.int .i64 N, .slice A n c, .slice B m d, .int .i64 0, .bool false] 46)).alloc (.cells #[.int .i64 0, .slice none 0 0, .slice none 0 0, .int .i64 0, .bool false] 46))).trans ht1)
  have HTH : Hid (w1.there w.heap.size 0 X.size) := Lib.hid (by rw [← hX]; exact hb1.there 0 5 (by simp))
  have HO : Hid (X.all (·.oneCell') = true) := Lib.hid (by rw [← hX]; simp [Value.oneCell'])
  have HI : Hid ((Try.prog.info? 46).map (·.size) = some X.size) := Lib.hid (by rw [← hX]; kernel_rfl)
  have hb2 := Blk.setCells [.int .i64 N, .slice A n c, .slice B m d, .int .i64 0, .bool true] 0 w1 _ hb1 (by simp)
  have tw := Turn.setCells (S := (· = w.heap.size)) (g := w.heap.size) [.int .i64 N, .slice A n c, .slice B m d, .int .i64 0, .bool true] 0 (Turn.refl _ w1) (.inl rfl)
  obtain ⟨W1, hW1⟩ : ∃ W, w1.setCells w.heap.size 0 [.int .i64 N, .slice A n c, .slice B m d, .int .i64 0, .bool true] = W := ⟨_, rfl⟩
  rw [hW1] at hb2 tw
  have hW2 : w1.setCells w.heap.size 0 X.toList = W1 := by rw [← hX]; exact hW1
  simp only [List.take, List.drop, List.length, List.nil_append, List.cons_append, Nat.zero_add] at hb2
  have HW2 := Lib.hid hW2
  have hr2 := hr1.turn tw (by omega)
  have HR2 := Lib.hid hr2
  have T2 := Lib.hid (T1.out.trans_new tw (fun k hk e => by omega))
  have b0 := hb2.cell 0
  have b1 := hb2.cell 1
  have b2 := hb2.cell 2
  have b3 := hb2.cell 3
  have b4 := hb2.cell 4
  have r0 := hr2.cell 0
  have r1 := hr2.cell 1
  have r2 := hr2.cell 2
  have r3 := hr2.cell 3
  have r4 := hr2.cell 4
  have g0 := hr2.free 0
  have g1 := hr2.free 1
  have g2 := hr2.free 2
  have g3 := hr2.free 3
  have g4 := hr2.free 4
  simp only [List.getElem?_cons_zero, List.getElem?_cons_succ] at b0 b1 b2 b3 b4 r0 r1 r2 r3 r4
  clear hb hr hb1 hr1 ht1 hX hW1 hW2 hb2 hr2 tw
  go_wp2_with (refine wpList_store_mid rfl 46 _ _ rfl w.heap.size 0 X rfl rfl HTH.out HI.out HO.out ?_; rw [HW2.out])
  have hf := ((((HR2.out.put 0 (.int .i64 N)).put 1 (.slice A n c)).put 2 (.slice B m d)).put 3 (.int .i64 0)).put 4 (.bool true)
  have tf := (((((Turn.refl (fun k => k = w.heap.size + 1) W1).setCell (p := ⟨w.heap.size + 1, 0, none⟩) (.inl rfl) (.int .i64 N)).setCell (p := ⟨w.heap.size + 1, 1, none⟩) (.inl rfl) (.slice A n c)).setCell (p := ⟨w.heap.size + 1, 2, none⟩) (.inl rfl) (.slice B m d)).setCell (p := ⟨w.heap.size + 1, 3, none⟩) (.inl rfl) (.int .i64 0)).setCell (p := ⟨w.heap.size + 1, 4, none⟩) (.inl rfl) (.bool true)
  have htt := T2.out.trans_new tf (fun k hk e => by omega)
  have e0 := hf.cell 0
  have e1 := hf.cell 1
  have e2 := hf.cell 2
  have e3 := hf.cell 3
  have e4 := hf.cell 4
  simp only [List.set_cons_zero, List.set_cons_succ, List.getElem?_cons_zero, List.getElem?_cons_succ] at e0 e1 e2 e3 e4
  clear b0 b1 b2 b3 b4 r0 r1 r2 r3 r4 g0 g1 g2 g3 g4 tf hf
  generalize (((((W1.setCell ⟨w.heap.size + 1, 0, none⟩ (.int .i64 N)).setCell ⟨w.heap.size + 1, 1, none⟩ (.slice A n c)).setCell ⟨w.heap.size + 1, 2, none⟩ (.slice B m d)).setCell ⟨w.heap.size + 1, 3, none⟩ (.int .i64 0)).setCell ⟨w.heap.size + 1, 4, none⟩ (.bool true)) = WF at *
  exact bodyPost_ret (v := .tuple #[.agg #[.int .i64 N, .slice A n c, .slice B m d, .int .i64 0, .bool true], .int .i64 20]) (by simp [results, Try.results19, go_sem, e0, e1, e2, e3, e4]) rfl ⟨rfl, htt⟩
set_option maxRecDepth 100000 in
set_option maxHeartbeats 4000000 in
theorem flushRef_off (N : Int) (A B : Option Addr) (n c m d : Nat) (w : World) :
    Calls Try.prog 53 #[.agg #[.int .i64 N, .slice A n c, .slice B m d, .int .i64 0, .bool false]] w fun e w' => e = .returned (.tuple #[.agg #[.int .i64 N, .slice A n c, .slice B m d, .int .i64 0, .bool true], .int .i64 20]) ∧ Turn (fun _ => False) w w' := by
  have HB : Hid (∀ W, Calls Try.prog 44 #[.agg #[.int .i64 N, .slice A n c, .slice B m d, .int .i64 0, .bool false]] W fun e w' => e = .returned (.tuple #[.agg #[.int .i64 N, .slice A n c, .slice B m d, .int .i64 0, .bool true], .bool false]) ∧ Turn (fun _ => False) W w') := Lib.hid (fun W => burn_r N A B n c m d 0 false (by omega) W)
  have HW0 := Lib.hid (Blk.new w 46 [.int .i64 N, .slice A n c, .slice B m d, .int .i64 0, .bool false])
  go_enter Try.func53, Try.ntmps53
  go_wp2_with fail
  refine (HB.out _).mono ?_
  obtain ⟨X, hX⟩ : ∃ X : Array Value, #[.int .i64 N, .slice A n c, .slice B m d, .int .i64 0, .bool true] = X := ⟨_, rfl⟩
  rw [hX]
  rintro e w1 ⟨rfl, ht1⟩
  have hb := HW0.out.alloc (.cells #[.int .i64 0, .slice none 0 0, .slice none 0 0, .int .i64 0, .bool false] 46)
  have hr := Blk.new_ (w.alloc (.cells #[.int .i64 N, .slice A n c, .slice B m d, .int .i64 0, .bool false] 46)) 46 [.int .i64 0, .slice none 0 0, .slice none 0 0, .int .i64 0, .bool false] (k := w.heap.size + 1) (by simp)
  have hb1 := hb.turn ht1 (fun h => h)
  have hr1 := hr.turn ht1 (fun h => h)
  have T1 := Lib.hid (((((Turn.refl (fun _ => False) w).alloc (.cells #[.int .i64 N, .slice A n c, .slice B m d, .int .i64 0, .bool false] 46)).alloc (.cells #[.int .i64 0, .slice none 0 0, .slice none 0 0, .int .i64 0, .bool false] 46))).trans ht1)
  have HTH : Hid (w1.there w.heap.size 0 X.size) := Lib.hid (by rw [← hX]; exact hb1.there 0 5 (by simp))
  have HO : Hid (X.all (·.oneCell') = true) := Lib.hid (by rw [← hX]; simp [Value.oneCell'])
  have HI : Hid ((Try.prog.info? 46).map (·.size) = some X.size) := Lib.hid (by rw [← hX]; kernel_rfl)
  have hb2 := Blk.setCells [.int .i64 N, .slice A n c, .slice B m d, .int .i64 0, .bool true] 0 w1 _ hb1 (by simp)
  have tw := Turn.setCells (S := (· = w.heap.size)) (g := w.heap.size) [.int .i64 N, .slice A n c, .slice B m d, .int .i64 0, .bool true] 0 (Turn.refl _ w1) (.inl rfl)
  obtain ⟨W1, hW1⟩ : ∃ W, w1.setCells w.heap.size 0 [.int .i64 N, .slice A n c, .slice B m d, .int .i64 0, .bool true] = W := ⟨_, rfl⟩
  rw [hW1] at hb2 tw
  have hW2 : w1.setCells w.heap.size 0 X.toList = W1 := by rw [← hX]; exact hW1
  simp only [List.take, List.drop, List.length, List.nil_append, List.cons_append, Nat.zero_add] at hb2
  have HW2 := Lib.hid hW2
  have hr2 := hr1.turn tw (by omega)
  have HR2 := Lib.hid hr2
  have T2 := Lib.hid (T1.out.trans_new tw (fun k hk e => by omega))
  have b0 := hb2.cell 0
  have b1 := hb2.cell 1
  have b2 := hb2.cell 2
  have b3 := hb2.cell 3
  have b4 := hb2.cell 4
  have r0 := hr2.cell 0
  have r1 := hr2.cell 1
  have r2 := hr2.cell 2
  have r3 := hr2.cell 3
  have r4 := hr2.cell 4
  have g0 := hr2.free 0
  have g1 := hr2.free 1
  have g2 := hr2.free 2
  have g3 := hr2.free 3
  have g4 := hr2.free 4
  simp only [List.getElem?_cons_zero, List.getElem?_cons_succ] at b0 b1 b2 b3 b4 r0 r1 r2 r3 r4
  clear hb hr hb1 hr1 ht1 hX hW1 hW2 hb2 hr2 tw
  go_wp2_with (refine wpList_store_mid rfl 46 _ _ rfl w.heap.size 0 X rfl rfl HTH.out HI.out HO.out ?_; rw [HW2.out])
  have hf := ((((HR2.out.put 0 (.int .i64 N)).put 1 (.slice A n c)).put 2 (.slice B m d)).put 3 (.int .i64 0)).put 4 (.bool true)
  have tf := (((((Turn.refl (fun k => k = w.heap.size + 1) W1).setCell (p := ⟨w.heap.size + 1, 0, none⟩) (.inl rfl) (.int .i64 N)).setCell (p := ⟨w.heap.size + 1, 1, none⟩) (.inl rfl) (.slice A n c)).setCell (p := ⟨w.heap.size + 1, 2, none⟩) (.inl rfl) (.slice B m d)).setCell (p := ⟨w.heap.size + 1, 3, none⟩) (.inl rfl) (.int .i64 0)).setCell (p := ⟨w.heap.size + 1, 4, none⟩) (.inl rfl) (.bool true)
  have htt := T2.out.trans_new tf (fun k hk e => by omega)
  have e0 := hf.cell 0
  have e1 := hf.cell 1
  have e2 := hf.cell 2
  have e3 := hf.cell 3
  have e4 := hf.cell 4
  simp only [List.set_cons_zero, List.set_cons_succ, List.getElem?_cons_zero, List.getElem?_cons_succ] at e0 e1 e2 e3 e4
  clear b0 b1 b2 b3 b4 r0 r1 r2 r3 r4 g0 g1 g2 g3 g4 tf hf
  generalize (((((W1.setCell ⟨w.heap.size + 1, 0, none⟩ (.int .i64 N)).setCell ⟨w.heap.size + 1, 1, none⟩ (.slice A n c)).setCell ⟨w.heap.size + 1, 2, none⟩ (.slice B m d)).setCell ⟨w.heap.size + 1, 3, none⟩ (.int .i64 0)).setCell ⟨w.heap.size + 1, 4, none⟩ (.bool true)) = WF at *
  exact bodyPost_ret (v := .tuple #[.agg #[.int .i64 N, .slice A n c, .slice B m d, .int .i64 0, .bool true], .int .i64 20]) (by simp [results, Try.results53, go_sem, e0, e1, e2, e3, e4]) rfl ⟨rfl, htt⟩
end Go.Proofs.Ytcjoinahelmmpaa
