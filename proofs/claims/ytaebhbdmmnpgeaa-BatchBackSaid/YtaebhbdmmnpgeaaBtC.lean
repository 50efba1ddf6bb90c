/- Layer 15: rows of bytes of one's own; putShort, record, Mark. -/
import Derived.Test.YtaebhbdmmnpgeaaSpAb
import Derived.Test.YtaebhbdmmnpgeaaPutB
namespace Go.Proofs.Ytaebhbdmmnpgeaa
open Go.RowKit Go.Shelf
set_option linter.unusedVariables false
set_option linter.unusedSimpArgs false
set_option maxRecDepth 100000
attribute [local go_sem] Oper.semAt_some

/-- A row of bytes of the call's own. -/
def Bo (B : Nat) (w : World) (v : Value) (l : List UInt8) : Prop := w.ownsRow B 5 1 v l.length (bv l)
theorem Bo.still {B : Nat} {w w' : World} {v : Value} {l : List UInt8} (h : Bo B w v l) (ht : Turn (fun _ => False) w w') : Bo B w' v l := own_still_ h ht
theorem Bo.low {B C : Nat} {w : World} {v : Value} {l : List UInt8} (h : Bo C w v l) (hB : B ≤ C) : Bo B w v l := own_mono9 h hB
theorem Bo.sl {B : Nat} {w : World} {v : Value} {l : List UInt8} (h : Bo B w v l) : Sl w w.heap.size v l := Sl.of_own h
theorem bo_ty {B : Nat} {w : World} {v : Value} {l : List UInt8} (h : Bo B w v l) {g t' : Nat} {cs : List Value} (hb : Blk w g t' cs) (hne : 5 ≠ t') : ∀ b, v.ownBlock = some b → b ≠ g := by
  obtain ⟨_, ⟨rfl, _⟩ | ⟨g', c, cur, rfl, hB, hh, _⟩⟩ := h
  · intro k hk; simp [Value.ownBlock] at hk
  · intro k hk e
    simp [Value.ownBlock] at hk
    subst hk e
    unfold Blk at hb
    rw [hh] at hb
    injection hb with hb
    injection hb with h1 h2
    exact hne h2
theorem Blk.bo {B : Nat} {w w' : World} {v : Value} {l : List UInt8} {g t : Nat} {cs : List Value} (hb : Blk w g t cs) (h : Bo B w v l) (hne : 5 ≠ t) (ht : Turn (fun k => v.ownBlock = some k) w w') : Blk w' g t cs := hb.turn ht (fun e => bo_ty h hb hne g e rfl)
theorem info_u8' : (Try.prog.info? 5).map (fun i => (i.zero, i.size, i.bytes)) = some (some (.int .u8 0), 1, 1) := Try.info5
theorem wpList_appb {w : World} {ops : Array Oper} {rest : List Oper} {o : Oper} {a : Act} {Q : Exit → Act → World → Prop} (hgd : o.guard = none) (x y : Operand)
    (ho : o.op = .call { callee := .builtin .append, args := #[x, y], argTypes := #[95, 95] })
    (B : Nat) (v u : Value) (l m : List UInt8) (hx : a.eval x = v) (hown : Bo B w v l) (hy : a.eval y = u) (hu : Bo 0 w u m) (hb : l.length + m.length ≤ 1000000) (hB : B ≤ w.heap.size)
    (h : ∀ A n c w', n = (l ++ m).length → Bo B w' (.slice A n c) (l ++ m) → Turn (fun k => v.ownBlock = some k) w w' → ((Value.slice A n c).ownBlock = v.ownBlock ∨ (Value.slice A n c).ownBlock = some w.heap.size) → wpList Try.prog ops Q rest (a.put o.dst (.slice A n c)) w') : wpList Try.prog ops Q (o :: rest) a w := by
  obtain ⟨A, c, e⟩ := own_slice_ hu
  refine wpList_app_rc hgd x y 95 ho B 5 _ 1 1 Try.underlying95 info_u8' rfl (by decide) v l.length (bv l) hx hown A m.length c (bv m) (by rw [hy, e]) (by rw [len_bv, Nat.mul_one]) (rc_own (e ▸ hu)) (bv_one m) (by unfold maxLen; omega) (by omega) hB ?_
  intro A' c' w' h1 h2 h3
  refine h A' _ c' w' List.length_append.symm ?_ h2 h3
  unfold Bo
  rw [List.length_append, bv_app]
  exact h1
theorem wpList_apps {w : World} {ops : Array Oper} {rest : List Oper} {o : Oper} {a : Act} {Q : Exit → Act → World → Prop} (hgd : o.guard = none) (x y : Operand)
    (ho : o.op = .call { callee := .builtin .append, args := #[x, y], argTypes := #[95, 9] })
    (B : Nat) (v : Value) (l : List UInt8) (s : ByteArray) (hx : a.eval x = v) (hown : Bo B w v l) (hy : a.eval y = .string s) (hb : l.length + s.size ≤ 1000000) (hB : B ≤ w.heap.size)
    (h : ∀ A n c w', n = (l ++ s.data.toList).length → Bo B w' (.slice A n c) (l ++ s.data.toList) → Turn (fun k => v.ownBlock = some k) w w' → wpList Try.prog ops Q rest (a.put o.dst (.slice A n c)) w') : wpList Try.prog ops Q (o :: rest) a w := by
  obtain ⟨i0, hi0, hy1, hy2, hy3⟩ := info_parts Try.info5
  refine Lib.wpList_append_own_string _ hgd x y 95 9 ho B 5 i0 Try.underlying95 Try.underlying9 hi0 hy1 hy2 hy3 v l.length (bv l) hx hown s hy (by unfold maxLen; omega) (by omega) hB ?_
  intro v' w' h1 h2 _
  have hs : Lib.strCells s = bv s.data.toList := by simp [Lib.strCells, bv, u8v]
  have h3 : Bo B w' v' (l ++ s.data.toList) := by
    unfold Bo
    rw [List.length_append, bv_app, ← hs]
    exact h1
  obtain ⟨A, c, e⟩ := own_slice_ h3
  subst e
  exact h A _ c w' rfl h3 (grown_turn14 h2)
theorem put8_bo {w : World} {B : Nat} {v : Value} {l : List UInt8} (h : Bo B w v l) (n : Int) (hl : l.length ≤ 1000000) :
    Calls Try.prog 72 #[v, .int .i64 n] w fun e w' => ∃ A k c, e = .returned (.slice A k c) ∧ k = (l ++ fld 1 n).length ∧ Bo w.heap.size w' (.slice A k c) (l ++ fld 1 n) ∧ Turn (fun _ => False) w w' := by
  obtain ⟨A, cap, rfl, hr, _⟩ := rd_of_own h
  refine (put8_any _ A cap l n w hr (Nat.le_refl _) (by omega)).mono fun e w' ⟨v, h1, h2, h3⟩ => ?_
  obtain ⟨A', c', e'⟩ := own_slice_ h2
  subst e'
  exact ⟨A', _, c', h1, rfl, h2, Turn.of_below h3 (fun k h1 h2 => by omega)⟩
theorem put64_bo {w : World} {B : Nat} {v : Value} {l : List UInt8} (h : Bo B w v l) (n : Int) (hl : l.length ≤ 1000000) :
    Calls Try.prog 71 #[v, .int .i64 n] w fun e w' => ∃ A k c, e = .returned (.slice A k c) ∧ k = (l ++ fld 8 n).length ∧ Bo w.heap.size w' (.slice A k c) (l ++ fld 8 n) ∧ Turn (fun _ => False) w w' := by
  obtain ⟨A, cap, rfl, hr, _⟩ := rd_of_own h
  refine (put64_any _ A cap l n w hr (Nat.le_refl _) (by omega)).mono fun e w' ⟨v, h1, h2, h3⟩ => ?_
  obtain ⟨A', c', e'⟩ := own_slice_ h2
  subst e'
  exact ⟨A', _, c', h1, rfl, h2, Turn.of_below h3 (fun k h1 h2 => by omega)⟩
theorem bo_nil (B : Nat) (w : World) : Bo B w (.slice none 0 0) [] := ⟨rfl, .inl ⟨rfl, rfl⟩⟩
theorem put8_nilb (n : Int) (w : World) : Calls Try.prog 72 #[.slice none 0 0, .int .i64 n] w fun e w' => ∃ A c, e = .returned (.slice A 1 c) ∧ Bo w.heap.size w' (.slice A 1 c) (fld 1 n) ∧ Turn (fun _ => False) w w' := by
  refine (put8_bo (bo_nil 0 w) n (by simp)).mono fun e w' ⟨A, k, c, h1, h2, h3, h4⟩ => ?_
  rw [List.nil_append] at h2 h3
  rw [len_fld] at h2
  subst h2
  exact ⟨A, c, h1, h3, h4⟩
theorem put64_nilb (n : Int) (w : World) : Calls Try.prog 71 #[.slice none 0 0, .int .i64 n] w fun e w' => ∃ A c, e = .returned (.slice A 8 c) ∧ Bo w.heap.size w' (.slice A 8 c) (fld 8 n) ∧ Turn (fun _ => False) w w' := by
  refine (put64_bo (bo_nil 0 w) n (by simp)).mono fun e w' ⟨A, k, c, h1, h2, h3, h4⟩ => ?_
  rw [List.nil_append] at h2 h3
  rw [len_fld] at h2
  subst h2
  exact ⟨A, c, h1, h3, h4⟩
/-- A short text's bytes, with their number ahead. -/
def sh15 (s : ByteArray) : List UInt8 := fld 1 (s.size : Int) ++ s.data.toList
theorem len_sh15 (s : ByteArray) : (sh15 s).length = 1 + s.size := by unfold sh15; rw [List.length_append, len_fld]; simp
set_option maxHeartbeats 4000000 in
theorem short_any {w : World} {B : Nat} {v : Value} {l : List UInt8} (s : ByteArray) (h : Bo B w v l) (hB : B ≤ w.heap.size) (hl : l.length ≤ 100000) (hs : s.size ≤ 300) :
    Calls Try.prog 119 #[v, .string s] w fun e w' => ∃ A n c, e = .returned (.slice A n c) ∧ n = (l ++ sh15 s).length ∧ Bo B w' (.slice A n c) (l ++ sh15 s) ∧ Turn (fun k => v.ownBlock = some k) w w' := by
  have HO := Lib.hid h
  obtain ⟨A0, c0, e⟩ := own_slice_ h
  subst e
  obtain ⟨k0, hk0⟩ : ∃ k, l.length = k := ⟨_, rfl⟩
  have HL := Lib.hid hk0
  have HP := Lib.hid (put8_nilb (s.size : Int) w)
  rw [hk0] at hl HO ⊢
  clear h hk0
  go_enter Try.func119, Try.ntmps119
  go_wp2_with (first
    | (go_at_call 72; refine HP.out.mono ?_; rintro e w1 ⟨A1, c1, rfl, ho1, ht1⟩; have O1 := Lib.hid ho1; have T1 := Lib.hid ht1; clear ho1 ht1)
    | (at_builtin; refine wpList_appb rfl _ _ rfl B (.slice A0 k0 c0) (.slice A1 1 c1) l (fld 1 (s.size : Int)) rfl (HO.out.still T1.out) rfl (O1.out.low (Nat.zero_le _)) (by rw [HL.out, len_fld]; omega) (Nat.le_trans hB T1.out.size) ?_; intro A2 n2 c2 w2 hn2 ho2 ht2 hp2; have O2 := Lib.hid ho2; have N2 := Lib.hid hn2; have P2 := Lib.hid hp2; have T2 := Lib.hid ((T1.out.mono (fun k _ h => h.elim)).trans ht2); clear hn2 ho2 ht2 hp2)
    | (at_builtin; refine wpList_apps rfl _ _ rfl B (.slice A2 n2 c2) (l ++ fld 1 (s.size : Int)) s rfl O2.out rfl (by rw [List.length_append, HL.out, len_fld]; omega) (Nat.le_trans hB T2.out.size) ?_; intro A3 n3 c3 w3 hn3 ho3 ht3; have O3 := Lib.hid ho3; have N3 := Lib.hid hn3; have T3 := Lib.hid ht3; clear hn3 ho3 ht3))
  go_ret
  refine ⟨_, _, _, rfl, by rw [N3.out]; unfold sh15; rw [List.append_assoc], by unfold sh15; rw [← List.append_assoc]; exact O3.out, T2.out.trans_new T3.out (fun k hk e => ?_)⟩
  rcases P2.out with h | h
  · rw [← h]; exact e
  · rw [h] at e
    injection e with e
    have := T1.out.size
    omega
end Go.Proofs.Ytaebhbdmmnpgeaa
/- Layer 15: record, Mark, kept, right, Bytes, Check. -/
namespace Go.Proofs.Ytaebhbdmmnpgeaa
open Go.RowKit Go.Shelf
set_option linter.unusedVariables false
set_option linter.unusedSimpArgs false
set_option maxRecDepth 100000
attribute [local go_sem] Oper.semAt_some

/-- A change's bytes; a batch's; a mark's. -/
def chB (x : Cg) : List UInt8 := fld 1 (if x.d then 1 else 0) ++ (sh15 x.k ++ sh15 x.v)
def rec15 (t : Int) (C : List Cg) : List UInt8 := ((fld 1 66 ++ fld 8 t) ++ fld 1 (C.length : Int)) ++ C.flatMap chB
def mrk15 (m : Int) : List UInt8 := fld 1 77 ++ fld 8 m
theorem len_chB (x : Cg) : (chB x).length = 3 + x.k.size + x.v.size := by
  unfold chB
  rw [List.length_append, List.length_append, len_fld, len_sh15, len_sh15]
  omega
theorem len_flatB {C : List Cg} (hk : ∀ x ∈ C, x.k.size ≤ 128 ∧ x.v.size ≤ 200) : (C.flatMap chB).length ≤ 340 * C.length := by
  induction C with
  | nil => simp
  | cons x C ih =>
    have h1 := ih (fun y hy => hk y (by simp [hy]))
    have h2 := hk x (by simp)
    rw [List.flatMap_cons, List.length_append, len_chB, List.length_cons]
    omega
theorem own_ge15 {B : Nat} {w : World} {v : Value} {l : List UInt8} (h : Bo B w v l) : ∀ k, v.ownBlock = some k → B ≤ k := fun k hk => (own_ge9 h k hk).1
theorem cells2b {W : World} {q t : Nat} {u0 u1 : Value} (h : Blk W q t [u0, u1]) : W.cell? ⟨q, 0, none⟩ = some u0 ∧ W.cell? ⟨q, 1, none⟩ = some u1 := ⟨h.cell 0, h.cell 1⟩
set_option maxHeartbeats 8000000 in
theorem record_any (t : Int) (C : List Cg) (vl : Value) (w : World) (h : Cx w vl C) (hn64 : C.length ≤ 64) (hk : ∀ x ∈ C, x.k.size ≤ 128 ∧ x.v.size ≤ 200) :
    Calls Try.prog 70 #[.agg #[.int .i64 t, vl]] w fun e w' => e = .returned (.string ⟨(rec15 t C).toArray⟩) ∧ Turn (fun _ => False) w w' := by
  obtain ⟨AC, cC, rfl, hl, hr⟩ := h
  obtain ⟨n, hn⟩ : ∃ n, C.length = n := ⟨_, rfl⟩
  have HN := Lib.hid hn
  have HR := Lib.hid hr
  have HK := Lib.hid hk
  have HF := Lib.hid (len_flatB hk)
  rw [hn] at hl hn64 ⊢
  obtain ⟨hd, hhd⟩ : ∃ l, (fld 1 66 ++ fld 8 t) ++ fld 1 (n : Int) = l := ⟨_, rfl⟩
  have HHD := Lib.hid hhd
  have HHL : Hid (hd.length = 10) := Lib.hid (by rw [← hhd]; simp [len_fld])
  have HREC : Hid (rec15 t C = hd ++ C.flatMap chB) := Lib.hid (by unfold rec15; rw [hn, hhd])
  rw [HREC.out]
  obtain ⟨R, hR⟩ : ∃ R, hd ++ C.flatMap chB = R := ⟨_, rfl⟩
  have HRR := Lib.hid hR
  rw [hR]
  clear hn hr hk hhd hR
  obtain ⟨W1, hW1⟩ : ∃ W, w.alloc (.cells #[.int .i64 t, .slice AC n cC] 24) = W := ⟨_, rfl⟩
  have TW : Hid (Turn (fun _ => False) w W1) := Lib.hid (hW1 ▸ (Turn.refl _ _).alloc _)
  have BX : Hid (Blk W1 w.heap.size 24 [.int .i64 t, .slice AC n cC]) := Lib.hid (hW1 ▸ Blk.new _ _ _)
  obtain ⟨x0, x1⟩ := cells2b BX.out
  have HP0 := Lib.hid (fun n W => put8_nilb n W)
  go_enter Try.func70, Try.ntmps70
  go_wp2_with (first
    | (go_at_call 72; refine (put8_bo O2.out (n : Int) (by simp [len_fld])).mono ?_; rintro e w3 ⟨A3, n3, c3, rfl, hn3, ho3, ht3⟩; have T3 := Lib.hid (T2.out.trans ht3); have O3 := Lib.hid (ho3.low T2.out.size); have N3 := Lib.hid hn3; obtain ⟨z0, z1⟩ := cells2b (BX.out.turn T3.out (fun h => h)); clear hn3 ho3 ht3)
    | (go_at_call 72; refine (HP0.out 66 _).mono ?_; rintro e w1 ⟨A1, c1, rfl, ho1, ht1⟩; have O1 := Lib.hid ho1; have T1 := Lib.hid ht1; obtain ⟨x0, x1⟩ := cells2b (BX.out.turn ht1 (fun h => h)); clear ho1 ht1)
    | (go_at_call 71; refine (put64_bo O1.out t (by simp [len_fld])).mono ?_; rintro e w2 ⟨A2, n2, c2, rfl, hn2, ho2, ht2⟩; have O2 := Lib.hid ho2; have T2 := Lib.hid (T1.out.trans ht2); obtain ⟨y0, y1⟩ := cells2b (BX.out.turn T2.out (fun h => h)); clear hn2 ho2 ht2))
  clear x0 x1 y0 y1 z0 z1 hW1
  have O3' : Hid (Bo W1.heap.size w3 (.slice A3 n3 c3) hd) := Lib.hid (by rw [← HHD.out]; exact O3.out)
  clear O1 T1 O2 T2 O3 N3
  go_loopw [3, 5, 6, 20] (fun v3 _ _ v20 wr => ∃ (j : Nat) (A : Option Addr) (k c : Nat) (F : List UInt8), j ≤ n ∧ v20 = .int .i64 j ∧ v3 = .slice A k c ∧ Hid (F = hd ++ (C.take j).flatMap chB) ∧ Bo W1.heap.size wr (.slice A k c) F ∧ Turn (fun _ => False) W1 wr) (fun _ _ _ v20 _ => n - (intOf v20).toNat)
  case atStart => exact ⟨0, A3, n3, c3, hd, Nat.zero_le _, rfl, rfl, Lib.hid (by simp), O3'.out, T3.out⟩
  case round =>
    clear O3' T3
    obtain ⟨j, A, k, c, F, hj, rfl, rfl, HFE, ho, ht⟩ := hrel
    obtain ⟨wx, rfl⟩ : ∃ W, W = wr := ⟨_, rfl⟩
    have TT := Lib.hid ht
    have OO := Lib.hid ho
    by_cases hlt : j < n
    · have hl1 : (j : Int) < (n : Int) := by omega
      have hl0 : (0 : Int) ≤ (j : Int) := by omega
      have hq := wrap_of ((j : Int) + 1) (by omega) (by omega)
      obtain ⟨x, hx⟩ : ∃ x, C[j]? = some x := ⟨_, List.getElem?_eq_getElem (by rw [HN.out]; exact hlt)⟩
      have HX := Lib.hid hx
      obtain ⟨k1, k2⟩ := HK.out x (List.mem_of_getElem? hx)
      have HNX : Hid (hd ++ (C.take (j + 1)).flatMap chB = ((F ++ fld 1 (if x.d then 1 else 0)) ++ sh15 x.k) ++ sh15 x.v) := Lib.hid (by rw [take_next hx, List.flatMap_append, HFE.out]; simp [chB])
      have HLF : Hid (F.length ≤ 30000) := Lib.hid (by
        rw [HFE.out, List.length_append, HHL.out]
        have := len_flatB (C := C.take j) (fun y hy => HK.out y (List.mem_of_mem_take hy))
        have : (C.take j).length ≤ n := by rw [List.length_take, HN.out]; omega
        omega)
      obtain ⟨b, o, rfl, hb1, hc1⟩ := HR.out.chg (by rw [HN.out]; omega)
      obtain ⟨c0, c1, c2⟩ := hc1 wx (TW.out.trans ht) j x hx
      obtain ⟨xk, xv, xd⟩ := x
      simp only at c0 c1 c2 k1 k2 HNX
      obtain ⟨W2, hW2⟩ : ∃ W, wx.alloc (.cells #[.string xk, .string xv, .bool xd] 92) = W := ⟨_, rfl⟩
      have T2 : Hid (Turn (fun _ => False) W1 W2) := Lib.hid (hW2 ▸ ht.alloc _)
      have IB : Hid (Blk W2 wx.heap.size 92 [.string xk, .string xv, .bool xd]) := Lib.hid (hW2 ▸ Blk.new _ _ _)
      have O2 : Hid (Bo W1.heap.size W2 (.slice A k c) F) := Lib.hid (hW2 ▸ ho.still ((Turn.refl _ _).alloc _))
      obtain ⟨e0, e1, e2, _, _, _⟩ := cells3 IB.out
      have hsz := ht.size
      clear hx hb1 hc1 ho ht
      go_upto_region 7 with fail
      clear hW2
      cases xd with
      | true =>
        simp only [if_true] at HNX
        go_wp2_with (first
          | (go_at_call 72; refine (HP0.out 1 _).mono ?_; rintro e w3 ⟨A3, c3, rfl, ho3, ht3⟩; have T3 := Lib.hid (T2.out.trans ht3); have U3 := Lib.hid ho3; have O3 := Lib.hid (O2.out.still ht3); have B3 := Lib.hid (IB.out.turn ht3 (fun h => h)); clear ho3 ht3)
          | (at_builtin; refine wpList_appb rfl _ _ rfl W1.heap.size (.slice A k c) (.slice A3 1 c3) F (fld 1 1) rfl O3.out rfl (U3.out.low (Nat.zero_le _)) (by have := HLF.out; rw [len_fld]; omega) T3.out.size ?_; intro A4 n4 c4 w4 hn4 ho4 ht4 hp4; have O4 := Lib.hid ho4; have T4 := Lib.hid (T3.out.trans_new ht4 (fun k hk e => by have := own_ge15 O3.out k e; omega)); have B4 := Lib.hid (B3.out.bo O3.out (by decide) ht4); obtain ⟨f0, f1, f2, _, _, _⟩ := cells3 B4.out; clear hn4 ho4 ht4 hp4)
          | (go_at_call 119; refine (short_any xv O5.out T5.out.size (by have := HLF.out; simp only [List.length_append, len_fld, len_sh15]; omega) (by omega)).mono ?_; rintro e w6 ⟨A6, n6, c6, rfl, hn6, ho6, ht6⟩; have O6 := Lib.hid ho6; have T6 := Lib.hid (T5.out.trans_new ht6 (fun k hk e => by have := own_ge15 O5.out k e; omega)); clear hn6 ho6 ht6)
          | (go_at_call 119; refine (short_any xk O4.out T4.out.size (by have := HLF.out; simp only [List.length_append, len_fld]; omega) (by omega)).mono ?_; rintro e w5 ⟨A5, n5, c5, rfl, hn5, ho5, ht5⟩; have O5 := Lib.hid ho5; have T5 := Lib.hid (T4.out.trans_new ht5 (fun k hk e => by have := own_ge15 O4.out k e; omega)); have B5 := Lib.hid (B4.out.bo O4.out (by decide) ht5); obtain ⟨g0, g1, g2, _, _, _⟩ := cells3 B5.out; clear hn5 ho5 ht5))
        go_roundw
        case rel => exact ⟨j + 1, A6, n6, c6, _, by omega, by simp [hq], rfl, Lib.hid HNX.out.symm, O6.out, T6.out⟩
        case measure => simp [intOf, hq]; omega
      | false =>
        simp only [Bool.false_eq_true, if_false] at HNX
        go_wp2_with (first
          | (go_at_call 72; refine (HP0.out 0 _).mono ?_; rintro e w3 ⟨A3, c3, rfl, ho3, ht3⟩; have T3 := Lib.hid (T2.out.trans ht3); have U3 := Lib.hid ho3; have O3 := Lib.hid (O2.out.still ht3); have B3 := Lib.hid (IB.out.turn ht3 (fun h => h)); clear ho3 ht3)
          | (at_builtin; refine wpList_appb rfl _ _ rfl W1.heap.size (.slice A k c) (.slice A3 1 c3) F (fld 1 0) rfl O3.out rfl (U3.out.low (Nat.zero_le _)) (by have := HLF.out; rw [len_fld]; omega) T3.out.size ?_; intro A4 n4 c4 w4 hn4 ho4 ht4 hp4; have O4 := Lib.hid ho4; have T4 := Lib.hid (T3.out.trans_new ht4 (fun k hk e => by have := own_ge15 O3.out k e; omega)); have B4 := Lib.hid (B3.out.bo O3.out (by decide) ht4); obtain ⟨f0, f1, f2, _, _, _⟩ := cells3 B4.out; clear hn4 ho4 ht4 hp4)
          | (go_at_call 119; refine (short_any xv O5.out T5.out.size (by have := HLF.out; simp only [List.length_append, len_fld, len_sh15]; omega) (by omega)).mono ?_; rintro e w6 ⟨A6, n6, c6, rfl, hn6, ho6, ht6⟩; have O6 := Lib.hid ho6; have T6 := Lib.hid (T5.out.trans_new ht6 (fun k hk e => by have := own_ge15 O5.out k e; omega)); clear hn6 ho6 ht6)
          | (go_at_call 119; refine (short_any xk O4.out T4.out.size (by have := HLF.out; simp only [List.length_append, len_fld]; omega) (by omega)).mono ?_; rintro e w5 ⟨A5, n5, c5, rfl, hn5, ho5, ht5⟩; have O5 := Lib.hid ho5; have T5 := Lib.hid (T4.out.trans_new ht5 (fun k hk e => by have := own_ge15 O4.out k e; omega)); have B5 := Lib.hid (B4.out.bo O4.out (by decide) ht5); obtain ⟨g0, g1, g2, _, _, _⟩ := cells3 B5.out; clear hn5 ho5 ht5))
        go_roundw
        case rel => exact ⟨j + 1, A6, n6, c6, _, by omega, by simp [hq], rfl, Lib.hid HNX.out.symm, O6.out, T6.out⟩
        case measure => simp [intOf, hq]; omega
    · obtain rfl : j = n := by omega
      have HALL : Hid (F = R) := Lib.hid (by rw [HFE.out, ← HRR.out, ← HN.out, List.take_length])
      have hsl := sl_conv OO.out.sl
      rw [HALL.out] at hsl
      go_wp2_with fail
      go_ret
      exact ⟨rfl, TW.out.trans TT.out⟩
end Go.Proofs.Ytaebhbdmmnpgeaa
/- Layer 15: Mark, kept, right, Bytes, Check. -/
namespace Go.Proofs.Ytaebhbdmmnpgeaa
open Go.RowKit Go.Shelf
set_option linter.unusedVariables false
set_option linter.unusedSimpArgs false
set_option maxRecDepth 100000
attribute [local go_sem] Oper.semAt_some

def mok15 (m : Int) : Bool := decide (0 ≤ m) && decide (m ≤ 1152921504606846976)
def mkv15 (m : Int) : Value := if mok15 m then .tuple #[.string ⟨(mrk15 m).toArray⟩, .int .i64 0] else .tuple #[.string ⟨#[]⟩, .int .i64 2]
theorem mok_yes {m : Int} (h0 : 0 ≤ m) (h1 : m ≤ 1152921504606846976) : mok15 m = true := by unfold mok15; simp [h0, h1]
theorem mok_no {m : Int} (h : m < 0 ∨ 1152921504606846976 < m) : mok15 m = false := by unfold mok15; simp; omega
set_option maxHeartbeats 4000000 in
theorem mark_any15 (m : Int) (w : World) :
    Calls Try.prog 25 #[.int .i64 m] w fun e w' => e = .returned (mkv15 m) ∧ Turn (fun _ => False) w w' := by
  have hways : m < 0 ∨ (¬ m < 0 ∧ (1152921504606846976 : Int) < m) ∨ (¬ m < 0 ∧ ¬ (1152921504606846976 : Int) < m) := by omega
  unfold mkv15
  rcases hways with h1 | ⟨h1, h2⟩ | ⟨h1, h2⟩
  · rw [mok_no (.inl h1)]
    simp only [Bool.false_eq_true, if_false]
    go_enter Try.func25, Try.ntmps25
    go_wp2_with fail
    go_ret2
    exact ⟨rfl, Turn.refl _ _⟩
  · rw [mok_no (.inr h2)]
    simp only [Bool.false_eq_true, if_false]
    go_enter Try.func25, Try.ntmps25
    go_wp2_with fail
    go_ret2
    exact ⟨rfl, Turn.refl _ _⟩
  · rw [mok_yes (by omega) (by omega)]
    simp only [if_true]
    go_enter Try.func25, Try.ntmps25
    go_wp2_with (first
      | (go_at_call 72; refine (put8_nilb 77 _).mono ?_; rintro e w1 ⟨A1, c1, rfl, ho1, ht1⟩; have O1 := Lib.hid ho1; have T1 := Lib.hid ht1; clear ho1 ht1)
      | (go_at_call 71; refine (put64_bo O1.out m (by simp [len_fld])).mono ?_; rintro e w2 ⟨A2, n2, c2, rfl, hn2, ho2, ht2⟩; have hsl := sl_conv ho2.sl; have T2 := Lib.hid (T1.out.trans ht2); clear hn2 ho2 ht2))
    go_ret2
    exact ⟨rfl, T2.out⟩
def kpt (x : Cg) : Bool := decide (x.k.size ≤ 120) && (decide (x.v.size ≤ 199) && (!x.d || x.v.toList.isEmpty))
theorem kpt_small {x : Cg} (h : kpt x = true) : x.k.size ≤ 120 ∧ x.v.size ≤ 199 := by
  unfold kpt at h
  simp only [Bool.and_eq_true, decide_eq_true_eq] at h
  exact ⟨h.1, h.2.1⟩
theorem kept_any (x : Cg) (w : World) :
    Calls Try.prog 118 #[.agg #[.string x.k, .string x.v, .bool x.d]] w fun e w' => e = .returned (.bool (kpt x)) ∧ w' = w.alloc (.cells #[.string x.k, .string x.v, .bool x.d] 92) := by
  obtain ⟨k, v, d⟩ := x
  obtain ⟨R, hR⟩ : ∃ r, kpt ⟨k, v, d⟩ = r := ⟨_, rfl⟩
  have HR := Lib.hid hR
  simp only
  rw [hR]
  have hky : (¬ (k.size : Int) ≤ 120 ∧ R = false) ∨ ((k.size : Int) ≤ 120 ∧ ¬ (v.size : Int) ≤ 199 ∧ R = false) ∨ ((k.size : Int) ≤ 120 ∧ (v.size : Int) ≤ 199 ∧ d = false ∧ R = true) ∨ ((k.size : Int) ≤ 120 ∧ (v.size : Int) ≤ 199 ∧ d = true ∧ (v.toList == []) = true ∧ R = true) ∨ ((k.size : Int) ≤ 120 ∧ (v.size : Int) ≤ 199 ∧ d = true ∧ (v.toList == []) = false ∧ R = false) := by
    rw [← hR]
    unfold kpt
    simp only
    by_cases h1 : k.size ≤ 120
    · by_cases h2 : v.size ≤ 199
      · have e : v.toList.isEmpty = (v.toList == []) := by cases v.toList <;> rfl
        rw [e]
        cases d <;> cases h3 : (v.toList == []) <;> simp [h1, h2] <;> omega
      · refine .inr (.inl ⟨by omega, by omega, by simp [h2]⟩)
    · refine .inl ⟨by omega, by simp [h1]⟩
  clear hR HR
  rcases hky with ⟨h1, rfl⟩ | ⟨h1, h2, rfl⟩ | ⟨h1, h2, rfl, rfl⟩ | ⟨h1, h2, rfl, h4, rfl⟩ | ⟨h1, h2, rfl, h4, rfl⟩
  all_goals
    go_enter Try.func118, Try.ntmps118
    go_wp2_with fail
    go_ret
    first | exact ⟨rfl, rfl⟩ | exact ⟨by simp [*], rfl⟩
/-- A batch is right. -/
def rgt15 (t : Int) (C : List Cg) : Prop := (1 ≤ t ∧ t ≤ 1152921504606846976 ∧ C.length ≤ 64) ∧ (∀ x ∈ C, kpt x = true) ∧ nod C
open Classical in
noncomputable def rg15 (t : Int) (C : List Cg) : Bool := decide (rgt15 t C)
theorem rg_yes {t : Int} {C : List Cg} (h : rgt15 t C) : rg15 t C = true := by unfold rg15; simpa using h
theorem rg_no {t : Int} {C : List Cg} (h : ¬ rgt15 t C) : rg15 t C = false := by unfold rg15; simpa using h
theorem rg_iff {t : Int} {C : List Cg} : rg15 t C = true ↔ rgt15 t C := by unfold rg15; simp
set_option maxHeartbeats 8000000 in
theorem right_15 (t : Int) (C : List Cg) (vl : Value) (w : World) (h : Cx w vl C) :
    Calls Try.prog 69 #[.agg #[.int .i64 t, vl]] w fun e w' => e = .returned (.bool (rg15 t C)) ∧ Turn (fun _ => False) w w' := by
  obtain ⟨AC, cC, rfl, hl, hr⟩ := h
  obtain ⟨n, hn⟩ : ∃ n, C.length = n := ⟨_, rfl⟩
  have HN := Lib.hid hn
  have HR := Lib.hid hr
  rw [hn] at hl ⊢
  obtain ⟨R, hR⟩ : ∃ R, rg15 t C = R := ⟨_, rfl⟩
  have HRR := Lib.hid hR
  rw [hR]
  clear hn hr hR
  obtain ⟨W1, hW1⟩ : ∃ W, w.alloc (.cells #[.int .i64 t, .slice AC n cC] 24) = W := ⟨_, rfl⟩
  have TW : Hid (Turn (fun _ => False) w W1) := Lib.hid (hW1 ▸ (Turn.refl _ _).alloc _)
  have BX : Hid (Blk W1 w.heap.size 24 [.int .i64 t, .slice AC n cC]) := Lib.hid (hW1 ▸ Blk.new _ _ _)
  obtain ⟨x0, x1⟩ := cells2b BX.out
  have hways : t < 1 ∨ (¬ t < 1 ∧ (1152921504606846976 : Int) < t) ∨ (¬ t < 1 ∧ ¬ (1152921504606846976 : Int) < t ∧ (64 : Int) < (n : Int)) ∨ (¬ t < 1 ∧ ¬ (1152921504606846976 : Int) < t ∧ ¬ (64 : Int) < (n : Int)) := by omega
  have HBAD : Hid ((t < 1 ∨ (1152921504606846976 : Int) < t ∨ (64 : Int) < (n : Int)) → R = false) := Lib.hid (fun h => by rw [← HRR.out]; exact rg_no (fun g => by have := g.1; rw [HN.out] at this; omega))
  rcases hways with h1 | ⟨h1, h2⟩ | ⟨h1, h2, h3⟩ | ⟨h1, h2, h3⟩
  case inl =>
    have HF := Lib.hid (HBAD.out (.inl h1))
    go_enter Try.func69, Try.ntmps69
    go_wp2_with fail
    go_ret
    exact ⟨by rw [HF.out]; rfl, TW.out⟩
  case inr.inl =>
    have HF := Lib.hid (HBAD.out (.inr (.inl h2)))
    go_enter Try.func69, Try.ntmps69
    go_wp2_with fail
    go_ret
    exact ⟨by rw [HF.out]; rfl, TW.out⟩
  case inr.inr.inl =>
    have HF := Lib.hid (HBAD.out (.inr (.inr h3)))
    go_enter Try.func69, Try.ntmps69
    go_wp2_with fail
    go_ret
    exact ⟨by rw [HF.out]; rfl, TW.out⟩
  case inr.inr.inr =>
    have HRG : Hid (1 ≤ t ∧ t ≤ 1152921504606846976 ∧ C.length ≤ 64) := Lib.hid ⟨by omega, by omega, by rw [HN.out]; omega⟩
    have hn64 : n ≤ 64 := by omega
    clear HBAD
    have M0 : Hid (Mp (W1.alloc (.map #[] 0)) W1.heap.size 0 (fun _ => none)) := Lib.hid (Mp.made W1)
    have T0 : Hid (Turn (fun _ => False) W1 (W1.alloc (.map #[] 0))) := Lib.hid ((Turn.refl _ _).alloc _)
    obtain ⟨y0, y1⟩ := cells2b (BX.out.turn T0.out (fun h => h))
    have hmm := @run_makeMap Try.prog
    go_enter Try.func69, Try.ntmps69
    go_wp2_with fail
    clear hmm hW1 x0 x1 y0 y1
    go_loopw [5, 24] (fun _ v24 wr => ∃ (i cnt : Nat) (F : List UInt8 → Option Value), i ≤ n ∧ v24 = .int .i64 i ∧ Mp wr W1.heap.size cnt F ∧ Hid (∀ x ∈ C.take i, kpt x = true) ∧ Hid (∀ k, (F k).isSome = (C.take i).any (fun y => y.k.toList == k)) ∧ Hid (cnt ≤ i ∧ (cnt = i ↔ nod (C.take i))) ∧ Turn (fun _ => False) W1 wr) (fun _ v24 _ => n - (intOf v24).toNat)
    case atStart => exact ⟨0, 0, _, Nat.zero_le _, rfl, M0.out, Lib.hid (fun x hx => by simp at hx), Lib.hid (fun k => rfl), Lib.hid ⟨Nat.le_refl _, by simp [nod]⟩, T0.out⟩
    case round =>
      clear M0 T0
      obtain ⟨i, cnt, F, hi, rfl, hmp, HOK, HF, HC2, ht⟩ := hrel
      obtain ⟨wx, rfl⟩ : ∃ W, W = wr := ⟨_, rfl⟩
      have TT := Lib.hid ht
      by_cases hlt : i < n
      · have hl1 : (i : Int) < (n : Int) := by omega
        have hl0 : (0 : Int) ≤ (i : Int) := by omega
        have hq := wrap_of ((i : Int) + 1) (by omega) (by omega)
        obtain ⟨x, hx⟩ : ∃ x, C[i]? = some x := ⟨_, List.getElem?_eq_getElem (by rw [HN.out]; exact hlt)⟩
        have HX := Lib.hid hx
        obtain ⟨b, o, rfl, hb1, hc⟩ := HR.out.chg (by rw [HN.out]; omega)
        obtain ⟨c0, c1, c2⟩ := hc wx (TW.out.trans ht) i x hx
        have hbad : Hid (kpt x = false → R = false) := Lib.hid (fun h => by
          rw [← HRR.out]
          exact rg_no (fun g => by have := g.2.1 x (List.mem_of_getElem? HX.out); rw [h] at this; cases this))
        have HOK2 : Hid (kpt x = true → ∀ y ∈ C.take (i + 1), kpt y = true) := Lib.hid (fun h y hy => by
          rw [take_next HX.out] at hy
          rcases List.mem_append.1 hy with hy | hy
          · exact HOK.out y hy
          · simp at hy; subst hy; exact h)
        have HNX : Hid (∀ u, (∀ k, (upd F x.k.toList (some u) k).isSome = (C.take (i + 1)).any (fun y => y.k.toList == k)) ∧ (if (F x.k.toList).isSome then cnt else cnt + 1) ≤ i + 1 ∧ ((if (F x.k.toList).isSome then cnt else cnt + 1) = i + 1 ↔ nod (C.take (i + 1)))) := Lib.hid (fun u => by
          rw [take_next HX.out]
          refine ⟨fun k => ?_, ?_⟩
          · rw [List.any_append]
            by_cases hk : k = x.k.toList
            · subst hk
              rw [upd_at]
              simp
            · rw [upd_ne _ _ hk, HF.out k]
              have : (x.k.toList == k) = false := by rw [beq_eq_false_iff_ne]; exact fun e => hk e.symm
              simp [this]
          · obtain ⟨g1, g2⟩ := HC2.out
            rw [nod_snoc, HF.out]
            cases hany : (C.take i).any (fun y => y.k.toList == x.k.toList) with
            | true =>
              simp only [if_true]
              refine ⟨by omega, fun h => by omega, fun h => by cases h.2⟩
            | false =>
              simp only [Bool.false_eq_true, if_false]
              refine ⟨by omega, fun h => ⟨g2.1 (by omega), trivial⟩, fun h => by have := g2.2 h.1; omega⟩)
        have hcn : cnt ≤ 100000 := by have := HC2.out.1; omega
        have HKE := Lib.hid (fun W => kept_any x W)
        obtain ⟨xk, xv, xd⟩ := x
        simp only at c0 c1 c2 HNX HKE
        obtain ⟨W2, hW2⟩ : ∃ W, wx.alloc (.cells #[.string xk, .string xv, .bool xd] 92) = W := ⟨_, rfl⟩
        have TT2 : Hid (Turn (fun _ => False) W1 W2) := Lib.hid (hW2 ▸ ht.alloc _)
        have IB : Hid (Blk W2 wx.heap.size 92 [.string xk, .string xv, .bool xd]) := Lib.hid (hW2 ▸ Blk.new _ _ _)
        have M2 : Hid (Mp W2 W1.heap.size cnt F) := Lib.hid (hW2 ▸ hmp.still ((Turn.refl _ _).alloc _))
        obtain ⟨e0, e1, e2, _, _, _⟩ := cells3 IB.out
        clear hx hb1 hc hmp ht
        obtain ⟨r, hr1⟩ : ∃ r, kpt ⟨xk, xv, xd⟩ = r := ⟨_, rfl⟩
        rw [hr1] at hbad HOK2 HKE
        have hks : Hid (r = true → xk.size ≤ 120) := Lib.hid (fun h => (kpt_small (hr1.trans h)).1)
        clear hr1
        go_upto_region 7 with fail
        clear hW2
        cases r with
        | false =>
          have HB := Lib.hid (hbad.out rfl)
          go_wp2_with (go_at_call 118; refine (HKE.out _).mono ?_; rintro e w3 ⟨rfl, hw3⟩; have T3 : Hid (Turn (fun _ => False) W1 w3) := Lib.hid (hw3 ▸ TT2.out.alloc _); clear hw3)
          go_ret
          exact ⟨by rw [HB.out]; rfl, TW.out.trans T3.out⟩
        | true =>
          have HO2 := Lib.hid (HOK2.out rfl)
          have hk3 := hks.out rfl
          clear hbad HOK2 hks
          go_wp2_with (first
            | (go_at_call 118; refine (HKE.out _).mono ?_; rintro e w3 ⟨rfl, hw3⟩; have T3 : Hid (Turn (fun _ => False) W1 w3) := Lib.hid (hw3 ▸ TT2.out.alloc _); have M3 : Hid (Mp w3 W1.heap.size cnt F) := Lib.hid (hw3 ▸ M2.out.still ((Turn.refl _ _).alloc _)); obtain ⟨f0, f1, f2, _, _, _⟩ := cells3 (IB.out.turn (S := fun _ => False) (w' := w3) (hw3 ▸ (Turn.refl _ _).alloc _) (fun h => h)); clear hw3)
            | (at_mapUpdate; refine wpList_update_mp rfl 166 167 Try.underlying166 _ _ _ rfl W1.heap.size cnt F xk (.agg #[]) (by unfold maxLen; omega) rfl M3.out (by unfold maxLen; omega) rfl rfl ?_; intro w9 hm9 ht9; have M9 := Lib.hid hm9; have T9 := Lib.hid ht9; clear hm9 ht9))
          go_roundw
          case rel => exact ⟨i + 1, _, _, by omega, by simp [hq], M9.out, HO2, Lib.hid (HNX.out _).1, Lib.hid (HNX.out (.agg #[])).2, T3.out.trans_new T9.out (fun k hk e => by omega)⟩
          case measure => simp [intOf, hq]; omega
      · obtain rfl : i = n := by omega
        have MP := Lib.hid hmp
        obtain ⟨y0, y1⟩ := cells2b (BX.out.turn TT.out (fun h => h))
        have HALL : Hid (R = decide (cnt = i)) := Lib.hid (by
          have e1 : C.take i = C := by rw [← HN.out, List.take_length]
          have g1 := HOK.out
          have g2 := HC2.out.2
          rw [e1] at g1 g2
          rw [← HRR.out]
          by_cases he : cnt = i
          · rw [decide_eq_true he]
            exact rg_yes ⟨HRG.out, g1, g2.1 he⟩
          · rw [decide_eq_false he]
            exact rg_no (fun g => he (g2.2 g.2.2)))
        clear hmp ht
        go_wp2_with (at_len; refine wpList_len_mp rfl 166 167 Try.underlying166 _ rfl W1.heap.size cnt F rfl MP.out ?_)
        go_ret
        exact ⟨by rw [HALL.out, show decide (cnt = i) = ((cnt : Int) == (i : Int)) from by rw [Bool.eq_iff_iff, beq_iff_eq, decide_eq_true_iff]; omega]; rfl, TW.out.trans TT.out⟩
/-- A row of changes of the call's own. -/
def Co (B : Nat) (w : World) (v : Value) (L : List Cg) : Prop := w.ownsRow B 92 3 v L.length (L.flatMap cc)
theorem Co.cx {B : Nat} {w : World} {v : Value} {L : List Cg} (h : Co B w v L) (hl : L.length ≤ 9223372036854775807) : Cx w v L := by
  obtain ⟨A, c, rfl⟩ := own_slice_ h
  exact ⟨A, c, rfl, hl, rc_own h⟩
theorem Co.still {B : Nat} {w w' : World} {v : Value} {L : List Cg} (h : Co B w v L) (ht : Turn (fun _ => False) w w') : Co B w' v L := own_still_ h ht
theorem co_nil (B : Nat) (w : World) : Co B w (.slice none 0 0) [] := ⟨rfl, .inl ⟨rfl, rfl⟩⟩
theorem info_cg15 : (Try.prog.info? 92).map (fun i => (i.zero, i.size, i.bytes)) = some (some (.agg #[.string ByteArray.empty, .string ByteArray.empty, .bool false]), 3, 40) := by kernel_rfl
theorem wpList_app1c {w : World} {ops : Array Oper} {rest : List Oper} {o : Oper} {a : Act} {Q : Exit → Act → World → Prop} (hgd : o.guard = none) (x y : Operand)
    (ho : o.op = .call { callee := .builtin .append, args := #[x, y], argTypes := #[22, 22] })
    (B : Nat) (v : Value) (L : List Cg) (n q : Nat) (z : Cg) (hx : a.eval x = v) (hn : L.length = n) (hown : Co B w v L) (hy : a.eval y = .slice (some ⟨q, 0, none⟩) 1 1) (hq : Blk w q 92 (cc z)) (hb : n ≤ 1000000) (hB : B ≤ w.heap.size)
    (h : ∀ A' c' w', Co B w' (.slice A' (n + 1) c') (L ++ [z]) → Turn (fun k => v.ownBlock = some k) w w' → wpList Try.prog ops Q rest (a.put o.dst (.slice A' (n + 1) c')) w') : wpList Try.prog ops Q (o :: rest) a w := by
  subst hn
  refine wpList_app_rc hgd x y 22 ho B 92 _ 3 40 Try.underlying22 info_cg15 rfl (by decide) v L.length (L.flatMap cc) hx hown (some ⟨q, 0, none⟩) 1 1 (cc z) hy rfl hq.rc (fun u hu => by simp [cc] at hu; rcases hu with rfl | rfl | rfl <;> rfl) (by unfold maxLen; omega) (by omega) hB ?_
  intro A' c' w' h1 h2 _
  refine h A' c' w' ?_ h2
  unfold Co
  rw [List.length_append, List.flatMap_append, List.length_singleton, List.flatMap_singleton]
  exact h1
end Go.Proofs.Ytaebhbdmmnpgeaa
