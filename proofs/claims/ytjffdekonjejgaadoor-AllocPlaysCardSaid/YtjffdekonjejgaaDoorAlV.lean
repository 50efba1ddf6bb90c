/- Layer 7: the document's alloc: New, with, Free. -/
import Derived.Test.YtjffdekonjejgaaDoorAlU
namespace Go.Proofs.YtjffdekonjejgaaDoor
open Go.RowKit
set_option linter.unusedVariables false
set_option maxRecDepth 100000

/-- The cells of a row of flags: taken, or not. -/
def tb (l : List Bool) : List Value := l.map fun b => .bool (!b)
theorem len_tb (l : List Bool) : (tb l).length = l.length := by simp [tb]
theorem tb_at (l : List Bool) (j : Nat) (hj : j < l.length) : (tb l)[j]? = some (.bool (!l.getD j false)) := by
  unfold tb
  rw [List.getElem?_map, List.getElem?_eq_getElem hj, List.getD_eq_getElem?_getD, List.getElem?_eq_getElem hj]; rfl
theorem tb_set (l : List Bool) (j : Nat) (b : Bool) : (tb l).set j (.bool (!b)) = tb (l.set j b) := by
  unfold tb
  rw [List.map_set]
/-- A value that reads as these flags. -/
def Tf (W : World) (v : Value) (l : List Bool) : Prop := ∃ b c rest, v = .slice (some ⟨b, 0, none⟩) l.length c ∧ Blk W b 4 (tb l ++ rest)
theorem Tf.turn {W W' : World} {v : Value} {l : List Bool} {S : Nat → Prop} (h : Tf W v l) (ht : Turn S W W') (hS : ∀ b, v.ownBlock = some b → ¬ S b) : Tf W' v l := by
  obtain ⟨b, c, rest, rfl, hb⟩ := h
  exact ⟨b, c, rest, rfl, hb.turn ht (hS b rfl)⟩
theorem Tf.still {W W' : World} {v : Value} {l : List Bool} (h : Tf W v l) (ht : Turn (fun _ => False) W W') : Tf W' v l := h.turn ht (fun _ _ h => h)
theorem Tf.lt {W : World} {v : Value} {l : List Bool} (h : Tf W v l) : ∀ b, v.ownBlock = some b → b < W.heap.size := by
  obtain ⟨b, c, rest, rfl, hb⟩ := h
  intro b' e
  simp [Value.ownBlock] at e
  subst e
  exact hb.lt
theorem info_bool : (Tryd.prog.info? 4).map (fun i => (i.zero, i.size, i.bytes)) = some (some (.bool false), 1, 1) := by kernel_rfl
theorem make_bools (n : Nat) (h1 : n ≤ 16384) (w : World) : (Instr.makeSlice 27 (.int .i64 n) (.int .i64 n)).run Tryd.prog w = .ok (.slice (some ⟨w.heap.size, 0, none⟩) n n) (w.alloc (.cells (List.replicate n (.bool false)).toArray 4)) := by
  obtain ⟨i, hi, hz, hs, hb⟩ := info_parts_ info_bool
  have := run_makeSlice (P := Tryd.prog) (w := w) 27 4 i _ Tryd.underlying27 hi hz .i64 .i64 n n (Int.natCast_nonneg _) (Int.le_refl _) (by rw [hs]; simp; omega) (by rw [hb]; omega) (by omega)
  rw [this, hs, Int.toNat_natCast]
  simp only [Value.cells, Nat.mul_one]
  congr 3
  exact madeCells_one _ _
theorem tb_none (n : Nat) : tb (List.replicate n true) = List.replicate n (.bool false) := by
  simp [tb]
theorem refNew7_bad (n : Int) (h : n < 1 ∨ 16384 < n) (w : World) :
    Calls Tryd.prog 9 #[.int .i64 n] w fun r w' => r = .returned (.tuple #[.agg #[.slice none 0 0], .int .i64 2]) ∧ Turn (fun _ => False) w w' := by
  by_cases h1 : n < 1
  · go_enter Tryd.func9, Tryd.ntmps9
    go_wp2
    exact bodyPost_ret (v := .tuple #[.agg #[.slice none 0 0], .int .i64 2]) (by simp [results, Tryd.results9, go_sem]) rfl ⟨rfl, (Turn.refl _ w).alloc _⟩
  · have h2 : 16384 < n := by omega
    clear h
    go_enter Tryd.func9, Tryd.ntmps9
    go_wp2
    exact bodyPost_ret (v := .tuple #[.agg #[.slice none 0 0], .int .i64 2]) (by simp [results, Tryd.results9, go_sem]) rfl ⟨rfl, (Turn.refl _ w).alloc _⟩
theorem refNew7_ok (n : Nat) (h1 : 1 ≤ n) (h2 : n ≤ 16384) (w : World) :
    Calls Tryd.prog 9 #[.int .i64 n] w fun r w' => ∃ v, r = .returned (.tuple #[.agg #[v], .int .i64 0]) ∧ Tf w' v (List.replicate n true) ∧ Turn (fun _ => False) w w' := by
  have hm := fun w => make_bools n h2 w
  have h1i : (1 : Int) ≤ (n : Int) := by omega
  have h2i : (n : Int) ≤ 16384 := by omega
  go_enter Tryd.func9, Tryd.ntmps9
  go_wp2
  refine bodyPost_ret (v := .tuple #[.agg #[.slice (some ⟨w.heap.size + 1, 0, none⟩) n n], .int .i64 0]) (by simp [results, Tryd.results9, go_sem]) rfl ⟨_, rfl, ⟨w.heap.size + 1, n, [], by rw [List.length_replicate], ?_⟩, ((Turn.refl _ w).alloc _).alloc _⟩
  rw [tb_none, List.append_nil]
  have := Blk.new_ (w.alloc (.cells #[.slice (some ⟨w.heap.size + 1, 0, none⟩) n n] 29)) 4 (List.replicate n (.bool false)) (k := w.heap.size + 1) (by simp)
  simpa using this
theorem refFree7 (v : Value) (l : List Bool) (hl : l.length ≤ 16384) (w : World) (h : Tf w v l) :
    Calls Tryd.prog 13 #[.agg #[v]] w fun r w' => r = .returned (.int .i64 (free7 l)) ∧ Turn (fun _ => False) w w' := by
  obtain ⟨b, c, rest, rfl, hb⟩ := h
  have HB := Lib.hid (fun j (hj : j < l.length) => (by
    have := hb.alloc (.cells #[.slice (some ⟨b, 0, none⟩) l.length c] 29) |>.cell j
    rw [List.getElem?_append_left (by rw [len_tb]; exact hj), tb_at l j hj] at this
    exact this : (w.alloc (.cells #[.slice (some ⟨b, 0, none⟩) l.length c] 29)).cell? ⟨b, j, none⟩ = some (.bool (!l.getD j false))))
  have hbl := hb.lt
  clear hb
  have HF : Hid (free7 l = cnt l 0 l.length) := Lib.hid rfl
  rw [HF.out]
  go_enter Tryd.func13, Tryd.ntmps13
  go_wp2
  go_loop [3, 4] (fun v3 v4 => ∃ k : Nat, k ≤ l.length ∧ v4 = .int .i64 k ∧ v3 = .int .i64 ((cnt l 0 k : Nat) : Int)) (fun _ v4 => l.length - (intOf v4).toNat)
  case atStart => exact ⟨0, Nat.zero_le _, rfl, rfl⟩
  case round =>
    obtain ⟨k, hk, rfl, rfl⟩ := hrel
    have hc := cnt_le l 0 k
    have e2 := wrap_of ((k : Int) + 1) (by omega) (by omega)
    by_cases hlt : k < l.length
    · have x2 := HB.out k hlt
      have HC : Hid (cnt l 0 (k + 1) = cnt l 0 k + (if l.getD k false then 1 else 0)) := Lib.hid (by rw [cnt, Nat.zero_add])
      have e1 := wrap_of (((cnt l 0 k : Nat) : Int) + 1) (by omega) (by omega)
      have hi : (k : Int) < (l.length : Int) := by omega
      cases hb : l.getD k false
      all_goals
        rw [hb] at HC x2
        generalize cnt l 0 k = s at *
        clear hb
        go_wp2
        go_round
        case rel => exact ⟨k + 1, hlt, by simp, by rw [HC.out]; simp⟩
        case measure => (simp [intOf]; try omega)
    · obtain rfl : k = l.length := by omega
      go_wp2
      go_ret
      exact ⟨rfl, (Turn.refl _ w).alloc _⟩
/-- The k flags from i on laid. -/
def setr (l : List Bool) (i : Nat) (b : Bool) : Nat → List Bool
  | 0 => l
  | k + 1 => (setr l i b k).set (i + k) b
theorem len_setr (l : List Bool) (i : Nat) (b : Bool) (k : Nat) : (setr l i b k).length = l.length := by
  induction k with
  | zero => rfl
  | succ k ih => rw [setr, List.length_set, ih]
theorem setr_flip (l : List Bool) (i : Nat) (b : Bool) (k : Nat) (h : i + k ≤ l.length) (hb : ∀ j, i ≤ j → j < i + k → l.getD j false = !b) : setr l i b k = flip l i k := by
  induction k with
  | zero => rfl
  | succ k ih =>
    rw [setr, flip, ih (by omega) (fun j a c => hb j a (by omega)), flip_at _ _ _ _ (by omega), if_neg (by omega), hb (i + k) (by omega) (by omega), Bool.not_not]
set_option maxHeartbeats 2000000 in
theorem refWith7 (v : Value) (l : List Bool) (I K : Nat) (b : Bool) (hl : l.length ≤ 16384) (hIK : I + K ≤ l.length) (hl0 : 0 < l.length) (w : World) (h : Tf w v l) :
    Calls Tryd.prog 33 #[.agg #[v], .int .i64 I, .int .i64 K, .bool (!b)] w fun r w' => ∃ v', r = .returned (.agg #[v']) ∧ Tf w' v' (setr l I b K) ∧ Turn (fun _ => False) w w' := by
  obtain ⟨g, c, rest, rfl, hb⟩ := h
  obtain ⟨i, hi, hz, hs, hbb⟩ := info_parts_ info_bool
  have HI := Lib.hid hi
  have HZ := Lib.hid hz
  have HS := Lib.hid hs
  have HB := Lib.hid hbb
  have hgl := hb.lt
  obtain ⟨n, hn⟩ : ∃ n, n = l.length := ⟨_, rfl⟩
  have HN := Lib.hid hn
  have HW3 : Hid (∃ W3, W3 = ((w.alloc (.cells #[.slice (some ⟨g, 0, none⟩) n c] 29)).alloc (.cells #[.slice none 0 0] 29)).alloc (.cells #[] 4) ∧ Turn (fun _ => False) w W3 ∧ W3.heap.size = w.heap.size + 3 ∧ W3.ownsRow (w.heap.size + 1 + 1) 4 1 (.slice (some ⟨w.heap.size + 1 + 1, 0, none⟩) 0 0) 0 [] ∧
      (∀ (j : Nat) (u : Value), (tb l)[j]? = some u → W3.cell? ((⟨g, 0, none⟩ : Addr).add j) = some u) ∧ Blk W3 (w.heap.size + 1) 29 [.slice none 0 0]) := Lib.hid (by
    refine ⟨_, rfl, (((Turn.refl _ w).alloc _).alloc _).alloc _, by simp, ?_, fun j u hu => ?_, (Blk.new_ _ 29 [.slice none 0 0] (k := w.heap.size + 1) (by simp)).alloc _⟩
    · have := own_new (w := (w.alloc (.cells #[.slice (some ⟨g, 0, none⟩) n c] 29)).alloc (.cells #[.slice none 0 0] 29)) (t := 4) (s := 1)
      simpa using this
    · rw [Addr.add_mid, Nat.zero_add, (((hb.alloc _).alloc _).alloc _).cell, List.getElem?_append_left (List.getElem?_eq_some_iff.1 hu).1]
      exact hu)
  obtain ⟨W3, hW3, ht3, hs3, ho3, hc3, hb3⟩ := HW3.out
  have HO3 := Lib.hid ho3
  have HC3 := Lib.hid hc3
  have HE3 := Lib.hid hW3
  have HT3 := Lib.hid ht3
  have HB3 := Lib.hid hb3
  have hone : ∀ u ∈ tb l, u.oneCell' = true := fun u hu => by unfold tb at hu; obtain ⟨k, _, rfl⟩ := List.mem_map.1 hu; rfl
  have HONE := Lib.hid hone
  have HLT : Hid ((tb l).length = n * 1) := Lib.hid (by rw [len_tb, hn]; omega)
  have hn2 : n ≤ 16384 := by omega
  have hIKn : I + K ≤ n := by omega
  have hn0 : 0 < n := by omega
  rw [← hn]
  clear hi hz hs hbb hb hW3 ht3 ho3 hc3 hb3 hone HW3 hn
  go_enter Tryd.func33, Tryd.ntmps33
  go_wp2_with (at_builtin; rw [← HE3.out]; refine wpList_append_own_at _ rfl _ _ 27 rfl (w.heap.size + 1 + 1) 4 i _ 1 1 Tryd.underlying27 HI.out HZ.out HS.out HB.out (by rfl) (by decide) (.slice (some ⟨w.heap.size + 1 + 1, 0, none⟩) 0 0) 0 [] rfl HO3.out ⟨g, 0, none⟩ n c (tb l) rfl HLT.out HC3.out HONE.out (by unfold maxLen; omega) (by omega) (by omega) ?_; intro v5 w5 ho5 hg5 hv5 hl5; clear hv5 hl5)
  simp only [Nat.zero_add, List.nil_append] at ho5
  obtain ⟨_, ⟨_, h0⟩ | ⟨g5, c5, cur, e5, hB5, hh5, hnc5, hm5, hsz5, hta5⟩⟩ := ho5
  · omega
  subst e5
  have B5 : Hid (∃ r, Blk w5 g5 4 (tb l ++ r)) := Lib.hid (by
    refine ⟨cur.toList.drop n, ?_⟩
    unfold Blk
    rw [Nat.mul_one] at hta5
    rw [← hta5, List.take_append_drop]
    exact hh5)
  obtain ⟨r5, hb5⟩ := B5.out
  have T5 := Lib.hid (HT3.out.trans_new (grown_turn7 hg5) (fun k hk e => by simp [Value.ownBlock] at e; omega))
  have R5 := Lib.hid (HB3.out.turn (grown_turn7 hg5) (by simp [Value.ownBlock]))
  have HB5 := Lib.hid hb5
  clear hh5 hta5 hg5 B5 hb5 hsz5
  go_loopw [10] (fun v10 wr => ∃ j : Nat, j ≤ K ∧ v10 = .int .i64 j ∧ Blk wr g5 4 (tb (setr l I b j) ++ r5) ∧ Turn (· = g5) w5 wr) (fun v10 _ => K - (intOf v10).toNat)
  case atStart => exact ⟨0, Nat.zero_le _, rfl, HB5.out, Turn.refl _ _⟩
  case round =>
    obtain ⟨j, hj, rfl, hbj, htj⟩ := hrel
    have HTJ := Lib.hid htj
    have HBJ := Lib.hid hbj
    have hlj := len_setr l I b j
    by_cases hlt : j < K
    · have e1 := wrap_of ((I : Int) + (j : Int)) (by omega) (by omega)
      have e2 := wrap_of ((j : Int) + 1) (by omega) (by omega)
      have hi0 : (I : Int) + (j : Int) < (n : Int) := by omega
      have hi1 : (0 : Int) ≤ (I : Int) + (j : Int) := by omega
      have hi2 : ((I : Int) + (j : Int)).toNat = I + j := by omega
      have x0 := hbj.cell (I + j)
      rw [List.getElem?_append_left (by rw [len_tb, hlj, ← HN.out]; omega), tb_at _ _ (by rw [hlj, ← HN.out]; omega)] at x0
      have x1 := hbj.free (I + j)
      have HP := Lib.hid (hbj.put (I + j) (.bool (!b)))
      have HP2 : Hid (Blk (wr.setCell ⟨g5, I + j, none⟩ (.bool (!b))) g5 4 (tb (setr l I b (j + 1)) ++ r5)) := Lib.hid (by
        have := HP.out
        rw [List.set_append_left _ _ (by rw [len_tb, hlj, ← HN.out]; omega), tb_set] at this
        exact this)
      have HT2 := Lib.hid (htj.setCell (p := ⟨g5, I + j, none⟩) (.inl rfl) (.bool (!b)))
      have hji : (j : Int) < (K : Int) := by omega
      clear hbj htj hlj HP
      go_wp2_with fail
      go_roundw
      case rel => exact ⟨j + 1, hlt, by simp, HP2.out, HT2.out⟩
      case measure => (simp [intOf]; try omega)
    · obtain rfl : j = K := by omega
      have R6 := R5.out.turn htj (by omega)
      have y0 := R6.cell 0
      have y1 := R6.free 0
      simp only [List.getElem?_cons_zero] at y0
      have HR6 := Lib.hid R6
      clear hbj htj R6 hlj
      go_wp2_with fail
      have TS := (Turn.refl (fun k => k = w.heap.size + 1) wr).setCell (p := ⟨w.heap.size + 1, 0, none⟩) (.inl rfl) (.slice (some ⟨g5, 0, none⟩) n c5)
      have z0 := (HR6.out.put 0 (.slice (some ⟨g5, 0, none⟩) n c5)).cell 0
      simp only [List.set_cons_zero, List.getElem?_cons_zero] at z0
      refine bodyPost_ret (v := .agg #[.slice (some ⟨g5, 0, none⟩) n c5]) (by simp [results, Tryd.results33, go_sem, z0]) rfl ⟨_, rfl, ⟨g5, c5, r5, by rw [len_setr, ← HN.out], HBJ.out.turn TS (by omega)⟩, (T5.out.trans_new HTJ.out (fun k hk h => by omega)).trans_new TS (fun k hk h => by omega)⟩
end Go.Proofs.YtjffdekonjejgaaDoor
