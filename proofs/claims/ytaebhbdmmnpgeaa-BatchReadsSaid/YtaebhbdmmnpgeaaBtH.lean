/- Layer 15: Read of a mark's record. -/
import Derived.Test.YtaebhbdmmnpgeaaBtC
import Derived.Test.YtaebhbdmmnpgeaaGetD
import Derived.ScopeJumps
import Derived.WalkMore
import Derived.Test.YtaebhbdmmnpgeaaBtF
namespace Go.Proofs.Ytaebhbdmmnpgeaa
open Go.RowKit Go.Shelf
set_option linter.unusedVariables false
set_option linter.unusedSimpArgs false
set_option maxRecDepth 100000
attribute [local go_sem] Oper.semAt_some

theorem cells2g {W : World} {q t : Nat} {u0 u1 : Value} (h : Blk W q t [u0, u1]) : W.cell? ⟨q, 0, none⟩ = some u0 ∧ W.cell? ⟨q, 1, none⟩ = some u1 ∧ W.frozen? ⟨q, 0, none⟩ = false ∧ W.frozen? ⟨q, 1, none⟩ = false := ⟨h.cell 0, h.cell 1, h.free 0, h.free 1⟩
theorem box2g {W : World} {q t : Nat} {u0 u1 : Value} (h : Blk W q t [u0, u1]) (x0 x1 : Value) : Blk ((W.setCell ⟨q, 0, none⟩ x0).setCell ⟨q, 1, none⟩ x1) q t [x0, x1] ∧ Turn (fun k => k = q) W ((W.setCell ⟨q, 0, none⟩ x0).setCell ⟨q, 1, none⟩ x1) := by
  refine ⟨(h.put 0 x0).put 1 x1, ?_⟩
  exact ((Turn.refl (fun k => k = q) W).setCell (p := ⟨q, 0, none⟩) (.inl rfl) x0).setCell (p := ⟨q, 1, none⟩) (.inl rfl) x1
theorem sl_of_conv (w : World) (s : ByteArray) (c : Nat) (fr : Nat × Nat) (hc : s.size ≤ c) (hm : c ≤ maxLen) :
    Sl (w.drew.alloc (.cells (bytesRow s c) 5 fr)) (w.drew.alloc (.cells (bytesRow s c) 5 fr)).heap.size (.slice (some ⟨w.heap.size, 0, none⟩) s.size c) s.data.toList := by
  have e : s.data.toList.length = s.size := by simp
  refine ⟨some ⟨w.heap.size, 0, none⟩, c, by rw [e], fun _ => ⟨_, rfl, rfl, by simp, fun j x hj => ?_⟩, hm, (fun h => by cases h), by rw [e]; exact hc⟩
  rw [Addr.add_mid, Nat.zero_add]
  have hjs : j < s.data.size := by
    rcases Nat.lt_or_ge j s.data.size with h | h
    · exact h
    · rw [List.getElem?_eq_none (by simpa using h)] at hj; cases hj
  have h1 : (w.drew.alloc (.cells (bytesRow s c) 5 fr)).heap[w.heap.size]? = some (.cells (bytesRow s c) 5 fr) := heap_alloc_new w.drew _
  rw [cell_of_row _ _ j _ _ _ h1]
  unfold bytesRow
  rw [Array.getElem?_append_left (by simpa using hjs), Array.getElem?_map, ← Array.getElem?_toList, hj]; rfl
theorem wpList_conv_sl {w : World} {ops : Array Oper} {rest : List Oper} {o : Oper} {a : Act} {Q : Exit → Act → World → Prop} (hw : Region.wanted o (yielded ops a.tmps) = true) (x : Operand) (ho : o.op = .convert 9 95 x) (s : ByteArray) (hx : a.eval x = .string s) (hs : s.size ≤ 1000000)
    (h : ∀ A c w', Sl w' w'.heap.size (.slice A s.size c) s.data.toList → Turn (fun _ => False) w w' → wpList Try.prog ops Q rest (a.put o.dst (.slice A s.size c)) w') : wpList Try.prog ops Q (o :: rest) a w :=
  wpList_step fun K hK => by
    rw [if_pos hw]
    have hr := run_bytes_of_string (P := Try.prog) w 9 95 5 s Try.underlying9 Try.underlying95 Try.underlying5
    unfold Oper.wp execOp
    simp only [ho, hx, Sem.run_bind, hr, Result.andThen_ok]
    exact hK _ _ (h _ _ _ (sl_of_conv w s _ _ (grownCap_ge _ _ _ _) (grownCap_le_maxLen _ _ _ _ (by unfold maxLen; omega))) ((Turn.refl _ _).drew.alloc _))
theorem newR_15 (v : Value) (l : List UInt8) (w : World) (h : Sl w w.heap.size v l) (hl : l.length ≤ 1000000) :
    Calls Try.prog 45 #[v] w fun e w' => ∃ p, e = .returned (.pointer (some ⟨p, 0, none⟩)) ∧ Rdr w' p l 0 0 ∧ w.heap.size ≤ p ∧ Turn (fun _ => False) w w' :=
  (newReader_any _ v l w h (Nat.le_refl _) (by omega)).mono fun e w' ⟨p, h1, h2, h3, h4⟩ => ⟨p, h1, h2, h3, Turn.of_below h4 (fun k h1 h2 => by omega)⟩
theorem mrk_u8 (m : Int) : rw_ 1 (mrk15 m) 0 0 = (77, 1, 0) := by
  unfold rw_ mrk15
  rw [if_pos rfl, if_neg (by simp [len_fld])]
  have h := num_fld 1 (by decide) 77 (fld 1 77 ++ fld 8 m) [] (fld 8 m) 0 (by simp) rfl
  have h2 : num 1 (fld 1 77 ++ fld 8 m) 0 = 77 := by omega
  rw [h2]
theorem mrk_i64 {m : Int} (h0 : 0 ≤ m) (h1 : m ≤ 1152921504606846976) : rw_ 8 (mrk15 m) 1 0 = (m.toNat, 9, 0) := by
  unfold rw_ mrk15
  rw [if_pos rfl, if_neg (by simp [len_fld])]
  have h := num_fld 8 (by decide) m (fld 1 77 ++ fld 8 m) (fld 1 77) [] 1 (by simp) (by simp [len_fld])
  have h2 : num 8 (fld 1 77 ++ fld 8 m) 1 = m.toNat := by omega
  rw [h2]
def Fr68 (x : Nat → Value) : Array Value := #[x 0, x 1, x 2, x 3, x 4, x 5, x 6, x 7, x 8, x 9, x 10, x 11, x 12, x 13, x 14, x 15, x 16, x 17, x 18, x 19, x 20, x 21, x 22, x 23, x 24, x 25, x 26, x 27, x 28, x 29, x 30, x 31, x 32, x 33, x 34, x 35, x 36, x 37, x 38, x 39, x 40, x 41, x 42, x 43, x 44, x 45, x 46, x 47, x 48, x 49, x 50, x 51, x 52, x 53, x 54, x 55, x 56, x 57, x 58, x 59, x 60, x 61, x 62, x 63, x 64, x 65, x 66, x 67]
/-- What holds where a mark is read. -/
def JM15 (w : World) (S : ByteArray) (l : List UInt8) (a : Act) (X : World) : Prop := ∃ (x : Nat → Value) (b5 p : Nat), a = { tmps := Fr68 x, defers := [] } ∧ x 0 = .string S ∧ x 2 = .pointer (some ⟨w.heap.size, 0, none⟩) ∧ x 5 = .pointer (some ⟨b5, 0, none⟩) ∧ x 11 = .pointer (some ⟨p, 0, none⟩) ∧ Blk X w.heap.size 24 [.int .i64 0, .slice none 0 0] ∧ Blk X b5 24 [.int .i64 0, .slice none 0 0] ∧ Rdr X p l 1 0 ∧ w.heap.size < b5 ∧ b5 < p ∧ Turn (fun _ => False) w X
theorem JM15.mk {w X : World} {S : ByteArray} {l : List UInt8} {tm : Array Value} {b5 p : Nat} (hfr : tm = Fr68 (fun i => tm.getD i undef)) (h0 : tm.getD 0 undef = .string S) (h2 : tm.getD 2 undef = .pointer (some ⟨w.heap.size, 0, none⟩)) (h5 : tm.getD 5 undef = .pointer (some ⟨b5, 0, none⟩)) (h11 : tm.getD 11 undef = .pointer (some ⟨p, 0, none⟩))
    (ha : Blk X w.heap.size 24 [.int .i64 0, .slice none 0 0]) (hb : Blk X b5 24 [.int .i64 0, .slice none 0 0]) (hr : Rdr X p l 1 0) (h1 : w.heap.size < b5) (h3 : b5 < p) (ht : Turn (fun _ => False) w X) : JM15 w S l { tmps := tm, defers := [] } X :=
  ⟨fun i => tm.getD i undef, b5, p, congrArg (fun t => ({ tmps := t, defers := [] } : Act)) hfr, h0, h2, h5, h11, ha, hb, hr, h1, h3, ht⟩
set_option maxHeartbeats 8000000 in
theorem read_mark (m : Int) (h0 : 0 ≤ m) (h1 : m ≤ 1152921504606846976) (w : World) :
    Calls Try.prog 12 #[.string ⟨(mrk15 m).toArray⟩] w fun e w' => e = .returned (.tuple #[.agg #[.int .i64 0, .slice none 0 0], .int .i64 m, .int .i64 0]) ∧ Turn (fun _ => False) w w' := by
  have HL := Lib.hid (show (mrk15 m).length = 9 from by unfold mrk15; simp [len_fld])
  obtain ⟨S, hS⟩ : ∃ S : ByteArray, (⟨(mrk15 m).toArray⟩ : ByteArray) = S := ⟨_, rfl⟩
  have HS := Lib.hid hS
  have HD : Hid (S.data.toList = mrk15 m) := Lib.hid (by rw [← hS])
  have hsz : S.size = 9 := by rw [← hS]; simp [ByteArray.size, HL.out]
  have HMK := Lib.hid (fun W => mark_any15 m W)
  have HU := Lib.hid (mrk_u8 m)
  have HI := Lib.hid (mrk_i64 h0 h1)
  have hw64 : wrap64 (m.toNat : Int) = m := by unfold wrap64; omega
  unfold mkv15 at HMK
  rw [mok_yes h0 h1] at HMK
  simp only [if_true] at HMK
  rw [hS] at HMK ⊢
  have hss := str_same S
  clear hS
  obtain ⟨Wa, hWa⟩ : ∃ W, w.alloc (.cells #[.int .i64 0, .slice none 0 0] 24) = W := ⟨_, rfl⟩
  obtain ⟨Wb, hWb⟩ : ∃ W, Wa.alloc (.cells #[.int .i64 0, .slice none 0 0] 24) = W := ⟨_, rfl⟩
  obtain ⟨Wc, hWc⟩ : ∃ W, Wb.alloc (.cells #[.string ⟨#[]⟩, .string ⟨#[]⟩, .bool false] 92) = W := ⟨_, rfl⟩
  have T0 : Hid (Turn (fun _ => False) w Wc) := Lib.hid (hWc ▸ (hWb ▸ (hWa ▸ (Turn.refl (fun _ => False) w).alloc (.cells #[.int .i64 0, .slice none 0 0] 24) : Turn (fun _ => False) w Wa).alloc (.cells #[.int .i64 0, .slice none 0 0] 24) : Turn (fun _ => False) w Wb).alloc _)
  have BA : Hid (Blk Wc w.heap.size 24 [.int .i64 0, .slice none 0 0]) := Lib.hid (hWc ▸ (show Blk Wb w.heap.size 24 [.int .i64 0, .slice none 0 0] from hWb ▸ (show Blk Wa w.heap.size 24 [.int .i64 0, .slice none 0 0] from hWa ▸ Blk.new _ _ _).alloc _).alloc _)
  have BB : Hid (Blk Wc Wa.heap.size 24 [.int .i64 0, .slice none 0 0]) := Lib.hid (hWc ▸ (show Blk Wb Wa.heap.size 24 [.int .i64 0, .slice none 0 0] from hWb ▸ Blk.new _ _ _).alloc _)
  have hab : w.heap.size < Wa.heap.size := by rw [← hWa]; simp
  have hbc : Wa.heap.size < Wc.heap.size := by rw [← hWc, ← hWb]; simp; omega
  go_enter Try.func12, Try.ntmps12
  go_wp2_with fail
  refine wp_scope_jumps 1 (JM15 w S (mrk15 m)) (fun _ _ => 0) rfl ?_ ?_
  · go_wp2_with (first
      | (refine wpList_conv_sl rfl _ rfl S rfl (by omega) ?_; intro A2 c2 w2 hs2 ht2; rw [hsz] at hs2; have S2 := Lib.hid hs2; have T2 := Lib.hid ht2; clear hs2 ht2)
      | (go_at_call 45; refine (newR_15 _ _ _ S2.out (by rw [HD.out, HL.out]; omega)).mono ?_; rintro e w3 ⟨p, rfl, hr3, hp3, ht3⟩; have R3 := Lib.hid hr3; have P3 := Lib.hid hp3; have T3 := Lib.hid (T2.out.trans ht3); clear hr3 hp3 ht3)
      | (go_at_call 46; refine (get8_any p _ 0 0 77 1 0 (by rw [HD.out]; exact HU.out) _ R3.out).mono ?_; rintro e w4 ⟨rfl, hr4, ht4⟩; have R4 := Lib.hid hr4; have T4 := Lib.hid ht4; clear hr4 ht4))
    have hp3 := P3.out
    have hs2 := T2.out.size
    have hT4 : Turn (fun _ => False) w w4 := (T0.out.trans T3.out).trans_new T4.out (fun k hk e => by omega)
    have hBA := (BA.out.turn T3.out (fun h => h)).turn T4.out (fun e => by omega)
    have hBB := (BB.out.turn T3.out (fun h => h)).turn T4.out (fun e => by omega)
    have hR4 := R4.out
    rw [HD.out] at hR4
    go_step3
    simp only [Exit.inBlock, Exit.then, Exit.jump, if_true]
    refine ⟨trivial, ?_⟩
    show JM15 w S (mrk15 m) _ _
    exact JM15.mk rfl rfl rfl rfl rfl hBA hBB hR4 (by omega) (by omega) hT4
  · clear hWa hWb hWc T0 BA BB hab hbc Wa Wb Wc
    rintro a X ⟨x, b5, p, rfl, h0, h2, h5, h11, hA, hB, hr, hl1, hl2, ht⟩
    have R1 := Lib.hid hr
    have TX := Lib.hid ht
    have AX := Lib.hid hA
    have BX := Lib.hid hB
    clear hA hB hr ht
    simp only [Fr68, h0, h2, h5, h11]
    clear h0 h2 h5 h11
    go_wp2_with (first
      | (go_at_call 47; refine (get64_any p _ 1 0 m.toNat 9 0 HI.out _ R1.out).mono ?_; rw [hw64]; rintro e w5 ⟨rfl, hr5, ht5⟩; have T5 := Lib.hid ht5; clear hr5 ht5)
      | (go_at_call 25; refine (HMK.out _).mono ?_; rintro e w6 ⟨rfl, ht6⟩; have T6 := Lib.hid (T5.out.trans_new ht6 (fun k hk e => e.elim)); have A6 := Lib.hid (AX.out.turn T6.out (fun e => by omega)); have B6 := Lib.hid (BX.out.turn T6.out (fun e => by omega)); obtain ⟨z0, z1, z2, z3⟩ := cells2g A6.out; obtain ⟨y0, y1⟩ := cells2b B6.out; clear ht6))
    go_step3
    go_wp2_with fail
    simp only [Exit.inBlock, Exit.then, Exit.jump]
    obtain ⟨BZ, TZ⟩ := box2g A6.out (.int .i64 0) (.slice none 0 0)
    obtain ⟨r0, r1⟩ := cells2b BZ
    refine bodyPost_ret (v := .tuple #[.agg #[.int .i64 0, .slice none 0 0], .int .i64 m, .int .i64 0]) (by simp [results, Try.results12, go_sem, r0, r1]) rfl ⟨rfl, ?_⟩
    have hx : Turn (fun _ => False) w X := TX.out
    exact (hx.trans_new T6.out (fun k hk e => by omega)).trans_new TZ (fun k hk e => by omega)
end Go.Proofs.Ytaebhbdmmnpgeaa
/- Layer 15: the statements' example. -/
namespace Go.Proofs.Ytaebhbdmmnpgeaa
open Go.RowKit Go.Shelf
set_option linter.unusedVariables false
set_option linter.unusedSimpArgs false
set_option maxRecDepth 100000
attribute [local go_sem] Oper.semAt_some

abbrev kA15 : ByteArray := ⟨#[97]⟩
abbrev kX15 : ByteArray := ⟨#[120]⟩
abbrev kB15 : ByteArray := ⟨#[66, 0, 0, 0, 0, 0, 0, 0, 5, 1, 0, 1, 97, 1, 120]⟩
abbrev kP15 : ByteArray := ⟨#[97, 15, 255, 255, 255, 255, 255, 255, 251]⟩
abbrev kM15 : ByteArray := ⟨#[77, 0, 0, 0, 0, 0, 0, 0, 9]⟩
abbrev kZ15 : ByteArray := ⟨#[0]⟩
theorem cx_new15 (w : World) (L : List Cg) (n : Nat) (cs : List Value) (hn : L.length = n) (hc : L.flatMap cc = cs) (hl : n ≤ 9223372036854775807) : Cx (w.alloc (.cells cs.toArray 92)) (.slice (some ⟨w.heap.size, 0, none⟩) n n) L := by
  subst hn hc
  exact ⟨_, _, rfl, hl, (Blk.new w 92 _).rc⟩
abbrev cg15 : List Cg := [⟨kA15, kX15, false⟩]
abbrev vn15 : Vn := ⟨5, ⟨#[]⟩, true⟩
theorem rec_ex : rec15 5 cg15 = [66, 0, 0, 0, 0, 0, 0, 0, 5, 1, 0, 1, 97, 1, 120] := by decide +kernel
theorem rg_ex : rg15 5 cg15 = true := rg_yes ⟨⟨by decide, by decide, by decide⟩, fun x hx => by simp at hx; subst hx; decide, by unfold nod; simp⟩
theorem by_ex : by15 5 cg15 = (kB15, 0) := by
  unfold by15
  rw [rg_ex, rec_ex]
  simp
theorem mrk_ex : (⟨(mrk15 9).toArray⟩ : ByteArray) = kM15 := by
  have : mrk15 9 = [77, 0, 0, 0, 0, 0, 0, 0, 9] := by decide +kernel
  rw [this]
theorem prP_ex : prP kA15 vn15 = ⟨kP15, kZ15⟩ := by
  have : fld 8 (1152921504606846976 - 5) = [15, 255, 255, 255, 255, 255, 255, 251] := by decide +kernel
  unfold prP
  simp only
  rw [this]
  rfl
theorem fts_ex : fts15 ⟨kA15, [vn15]⟩ = true := by decide +kernel
theorem ix_one {W : World} {q g : Nat} {k : ByteArray} {y : Vn} (hg : Blk W g 105 [.int .i64 y.t, .string y.s, .bool y.d]) (hq : Blk W q 54 [.string k, .slice (some ⟨g, 0, none⟩) 1 1]) :
    Ix W (.slice (some ⟨q, 0, none⟩) 1 1) [(⟨k, [y]⟩, .slice (some ⟨g, 0, none⟩) 1 1)] := by
  refine ⟨some ⟨q, 0, none⟩, 1, rfl, by simp, hq.rc, fun p hp => ?_⟩
  simp at hp
  subst hp
  refine ⟨some ⟨g, 0, none⟩, 1, rfl, by simp, fun _ => ⟨g, 0, rfl, hg.lt, fun j x hj => ?_⟩⟩
  obtain rfl : j = 0 := by
    have := (List.getElem?_eq_some_iff.1 hj).1
    simp at this
    exact this
  simp at hj
  subst hj
  exact ⟨hg.cell 0, hg.cell 1, hg.cell 2⟩
theorem px_one {W : World} {q : Nat} {z : Pq2} (hq : Blk W q 56 [.string z.k, .string z.v]) : Px W (.slice (some ⟨q, 0, none⟩) 1 1) [z] :=
  ⟨some ⟨q, 0, none⟩, 1, rfl, by simp, hq.rc⟩
set_option maxHeartbeats 8000000 in
theorem lives_15 (w : World) : Calls Try.prog 15 #[] w fun e w' => e = .returned (.bool true) ∧ Turn (fun _ => False) w w' := by
  have HBY := Lib.hid (fun W vl (h : Cx W vl cg15) => bytes_15 5 cg15 vl W h)
  rw [by_ex] at HBY
  have HPR := Lib.hid (fun A c u W h => pairs_one kA15 vn15 A c u W h fts_ex)
  rw [prP_ex] at HPR
  have HRD := Lib.hid (fun W => read_mark 9 (by decide) (by decide) W)
  rw [mrk_ex] at HRD
  have hss := str_same kB15
  obtain ⟨W1, hW1⟩ : ∃ W, w.alloc (.cells #[.string kA15, .string kX15, .bool false] 92) = W := ⟨_, rfl⟩
  have T1 : Hid (Turn (fun _ => False) w W1) := Lib.hid (hW1 ▸ (Turn.refl _ _).alloc _)
  have C1 : Hid (Cx W1 (.slice (some ⟨w.heap.size, 0, none⟩) 1 1) cg15) := Lib.hid (hW1 ▸ cx_new15 w cg15 1 [.string kA15, .string kX15, .bool false] rfl rfl (by decide))
  go_enter Try.func15, Try.ntmps15
  go_wp2_with (first
    | (go_at_call 23; refine (HBY.out _ _ C1.out).mono ?_; rintro e w2 ⟨rfl, ht2⟩; have T2 := Lib.hid (T1.out.trans ht2); clear ht2)
    | (go_at_call 17; refine (HPR.out _ _ (.slice (some ⟨w2.heap.size, 0, none⟩) 1 1) _ (ix_one (k := kA15) (y := vn15) ((Blk.new w2 105 [.int .i64 5, .string ⟨#[]⟩, .bool true]).alloc _) (Blk.new_ (w2.alloc (.cells #[.int .i64 5, .string ⟨#[]⟩, .bool true] 105)) 54 [.string kA15, .slice (some ⟨w2.heap.size, 0, none⟩) 1 1] (by simp)))).mono ?_; rintro e w3 ⟨A3, c3, rfl, hp3, ht3⟩; have P3 := Lib.hid hp3; have T3 := Lib.hid (((T2.out.alloc _).alloc _).trans ht3); clear hp3 ht3)
    | (go_at_call 12; refine (HRD.out _).mono ?_; rintro e w4 ⟨rfl, ht4⟩; have P4 := Lib.hid (P3.out.still ht4); have T4 := Lib.hid (T3.out.trans ht4); clear ht4)
    | (go_at_call 21; refine (refSame10 [⟨kP15, kZ15⟩] _ _ _ (P4.out.still (((Turn.refl _ _).alloc _).alloc _)) (px_one (z := ⟨kP15, kZ15⟩) (Blk.new_ (w4.alloc (.cells #[.int .i64 0, .slice none 0 0] 24)) 56 [.string kP15, .string kZ15] (by simp)))).mono ?_; rintro e w5 ⟨rfl, ht5⟩; have T5 := Lib.hid (((T4.out.alloc (.cells #[.int .i64 0, .slice none 0 0] 24)).alloc (.cells #[.string kP15, .string kZ15] 56)).trans ht5); clear ht5))
  go_ret
  exact ⟨rfl, T5.out⟩
end Go.Proofs.Ytaebhbdmmnpgeaa
