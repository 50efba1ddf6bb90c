/- The contracts of package field's Put functions, second part: the whole calls. -/
import Derived.Test.YtaebhbdmmnpgeaaPutA
import Derived.Lib.AppendStr
namespace Go.Proofs.Ytaebhbdmmnpgeaa
open Go.RowKit
set_option linter.unusedVariables false

theorem fld_wrap8 (n : Int) : fld 1 (n % 256) = fld 1 n := by
  refine List.map_congr_left fun i hi => ?_
  rw [List.mem_range] at hi
  unfold fbyte
  have hc : i = 0 := by omega
  rcases hc with rfl
  all_goals (congr 2; simp only [Nat.reduceSub, Nat.reduceMul, Int.reducePow]; omega)

set_option maxHeartbeats 400000 in
theorem putWord8 (B : Nat) (A : Option Addr) (cb : Nat) (l : List UInt8) (n : Int) (room : Nat) (w : World) (hA : Rd w B A l) (hB : B ≤ w.heap.size)
    (hn0 : 0 ≤ n) (hn1 : n ≤ 255) (hl : l.length + room ≤ 140737488355000) :
    Calls Try.prog 121 #[.slice A l.length cb, .int .u8 n, .int .i64 room] w fun e w' => ∃ g, e = .returned (.slice (some ⟨g, 0, none⟩) (l.length + 1) (l.length + 1 + room)) ∧
      w.heap.size ≤ g ∧ Row w' 5 g (l.length + 1 + room) (l ++ fld 1 n) ∧ Below w.heap.size w w' := by
  obtain ⟨i0, hi, hz0, hz1, hz2⟩ := info_parts Try.info5
  have hmk : ∀ (w : World), (Instr.makeSlice 95 (.int .i64 l.length) (.int .i64 (l.length + 1 + room))).run Try.prog w = .ok (.slice (some ⟨w.heap.size, 0, none⟩) l.length (l.length + 1 + room)) (w.alloc (.cells (madeCells #[.int .u8 0] (l.length + 1 + room)) 5)) := fun w => by
    have := run_make (P := Try.prog) w 95 5 i0 (.int .u8 0) Try.underlying95 hi hz0 .i64 .i64 (l.length : Int) (l.length + 1 + room : Int) (by omega) (by omega) (by rw [hz2]; omega) (by omega)
    simpa [hz1, show ((l.length : Int) + 1 + room).toNat = l.length + 1 + room from by omega, Value.cells] using this
  have K1 : Blk (((w.alloc (.cells #[.int .u8 n] 5)).alloc (.cells (madeCells #[.int .u8 0] (l.length + 1 + room)) 5)).alloc (.cells #[.slice (some ⟨w.heap.size + 1, 0, none⟩) l.length (l.length + 1 + room)] 95)) (w.heap.size + 1) 5 (List.replicate (l.length + 1 + room) (.int .u8 0)) := by
    have := (Blk.new (w.alloc (.cells #[.int .u8 n] 5)) 5 (List.replicate (l.length + 1 + room) (.int .u8 0))).alloc (.cells #[.slice (some ⟨w.heap.size + 1, 0, none⟩) l.length (l.length + 1 + room)] 95)
    rw [madeCells_one]
    simpa using this
  have K2 : Blk (((w.alloc (.cells #[.int .u8 n] 5)).alloc (.cells (madeCells #[.int .u8 0] (l.length + 1 + room)) 5)).alloc (.cells #[.slice (some ⟨w.heap.size + 1, 0, none⟩) l.length (l.length + 1 + room)] 95)) w.heap.size 5 [.int .u8 n] :=
    ((Blk.new w 5 [.int .u8 n]).alloc _).alloc _
  have K3 : Blk (((w.alloc (.cells #[.int .u8 n] 5)).alloc (.cells (madeCells #[.int .u8 0] (l.length + 1 + room)) 5)).alloc (.cells #[.slice (some ⟨w.heap.size + 1, 0, none⟩) l.length (l.length + 1 + room)] 95)) (w.heap.size + 2) 95 [.slice (some ⟨w.heap.size + 1, 0, none⟩) l.length (l.length + 1 + room)] := by
    have := Blk.new ((w.alloc (.cells #[.int .u8 n] 5)).alloc (.cells (madeCells #[.int .u8 0] (l.length + 1 + room)) 5)) 95 [.slice (some ⟨w.heap.size + 1, 0, none⟩) l.length (l.length + 1 + room)]
    simpa using this
  have K4 : Below w.heap.size w (((w.alloc (.cells #[.int .u8 n] 5)).alloc (.cells (madeCells #[.int .u8 0] (l.length + 1 + room)) 5)).alloc (.cells #[.slice (some ⟨w.heap.size + 1, 0, none⟩) l.length (l.length + 1 + room)] 95)) :=
    (((Below.refl _ _).alloc (Nat.le_refl _) _).alloc (by simp) _).alloc (by simp; omega) _
  have HA := Lib.hid (hA.below (K4.mono hB))
  have H1 := Lib.hid K1
  have H2 := Lib.hid K2
  have H3 := Lib.hid K3
  have H4 := Lib.hid K4
  clear hA hi hz0 hz1 hz2 K1 K2 K3 K4
  go_enter Try.func121, Try.ntmps121
  go_wp2_with (first
    | (go_at_call 144; refine (bytesOf8 _).mono ?_; rintro e w' ⟨rfl, rfl⟩)
    | (with_reducible refine wpList_copy_all rfl _ _ 95 rfl 5 Try.underlying95 Try.cell5 l (w.heap.size + 1) _ A cb B rfl rfl HA.out _ 5 H1.out (by simp; omega) ?_; intro w1 hg1 ht1))
  refine (each8p _ _ (fun i w'' => Row w'' 5 (w.heap.size + 1) (l.length + 1 + room) (l ++ fldTo 1 n i) ∧ Blk w'' (w.heap.size + 1 + 1) 95 [.slice (some ⟨w.heap.size + 1, 0, none⟩) (l.length + i) (l.length + 1 + room)] ∧
    Blk w'' w.heap.size 5 [.int .u8 n] ∧ Below w.heap.size w w'') ?_ w1 ?_).mono ?_
  · rintro k d w2 hk ⟨hr, ho, hb, hbel⟩ hd
    refine (putStep8 (w.heap.size + 1) (w.heap.size + 1 + 1) w.heap.size (l.length + 1 + room) n (l ++ fldTo 1 n k) k hk d hd w2 hn0 hn1 hr (by simp [len_fldTo]; omega) (by simpa [len_fldTo] using ho) hb (by omega)).mono ?_
    rintro e w3 ⟨rfl, hr', ho', ht⟩
    refine ⟨rfl, by rw [fldTo_succ, ← List.append_assoc]; exact hr', by simpa [len_fldTo, Nat.add_assoc] using ho', hb.turn ht (by omega), hbel.trans (ht.below hbel.size (by omega))⟩
  · exact ⟨⟨_, by simpa [fldTo] using hg1.out, by simp [fldTo]; omega⟩, H3.out.turn ht1 (by omega), H2.out.turn ht1 (by omega), H4.out.trans (ht1.below (by simp; omega) (by omega))⟩
  · rintro e w4 ⟨rfl, hr, ho, hb, hbel⟩
    have hc := ho.cell 0
    have hc' : w4.cell? ⟨w.heap.size + 1 + 1, 0, none⟩ = some (.slice (some ⟨w.heap.size + 1, 0, none⟩) (l.length + 1) (l.length + 1 + room)) := hc
    have HR := Lib.hid hr
    have HB := Lib.hid hbel
    clear hr ho hb hbel hc ht1
    go_wp2
    go_ret
    exact ⟨_, rfl, by omega, HR.out, HB.out⟩

set_option maxHeartbeats 400000 in
theorem put8_any (B : Nat) (A : Option Addr) (cb : Nat) (l : List UInt8) (n : Int) (w : World) (hA : Rd w B A l) (hB : B ≤ w.heap.size) (hl : l.length ≤ 140737488354000) :
    Calls Try.prog 72 #[.slice A l.length cb, .int .i64 n] w fun e w' => ∃ v, e = .returned v ∧
      w'.ownsRow w.heap.size 5 1 v (l ++ fld 1 n).length (bv (l ++ fld 1 n)) ∧ Below w.heap.size w w' := by
  have HW := Lib.hid (fld_wrap8 n)
  have HA := Lib.hid hA
  have h0 : 0 ≤ n % 256 := by omega
  have h1 : n % 256 ≤ 255 := by omega
  clear hA
  go_enter Try.func72, Try.ntmps72
  go_wp2_with (go_at_call 121; refine (putWord8 B A cb l (n % 256) 0 _ HA.out hB h0 h1 (by omega)).mono ?_; rintro e w1 ⟨g, rfl, hg, hr, hb⟩; rw [HW.out] at hr; have HR := Lib.hid hr; clear hr)
  go_ret
  have := HR.out.own hg (by unfold maxLen; omega)
  rw [show (l ++ fld 1 n).length = l.length + 1 from by simp [len_fld]] at this ⊢
  exact ⟨_, rfl, this, hb⟩

theorem fld_wrap16 (n : Int) : fld 2 (n % 65536) = fld 2 n := by
  refine List.map_congr_left fun i hi => ?_
  rw [List.mem_range] at hi
  unfold fbyte
  have hc : i = 0 ∨ i = 1 := by omega
  rcases hc with rfl | rfl
  all_goals (congr 2; simp only [Nat.reduceSub, Nat.reduceMul, Int.reducePow]; omega)

theorem fld_wrap32 (n : Int) : fld 4 (n % 4294967296) = fld 4 n := by
  refine List.map_congr_left fun i hi => ?_
  rw [List.mem_range] at hi
  unfold fbyte
  have hc : i = 0 ∨ i = 1 ∨ i = 2 ∨ i = 3 := by omega
  rcases hc with rfl | rfl | rfl | rfl
  all_goals (congr 2; simp only [Nat.reduceSub, Nat.reduceMul, Int.reducePow]; omega)

theorem fld_wrap64 (n : Int) : fld 8 (n % 18446744073709551616) = fld 8 n := by
  refine List.map_congr_left fun i hi => ?_
  rw [List.mem_range] at hi
  unfold fbyte
  have hc : i = 0 ∨ i = 1 ∨ i = 2 ∨ i = 3 ∨ i = 4 ∨ i = 5 ∨ i = 6 ∨ i = 7 := by omega
  rcases hc with rfl | rfl | rfl | rfl | rfl | rfl | rfl | rfl
  all_goals (congr 2; simp only [Nat.reduceSub, Nat.reduceMul, Int.reducePow]; omega)

set_option maxHeartbeats 400000 in
theorem putWord64 (B : Nat) (A : Option Addr) (cb : Nat) (l : List UInt8) (n : Int) (room : Nat) (w : World) (hA : Rd w B A l) (hB : B ≤ w.heap.size)
    (hn0 : 0 ≤ n) (hn1 : n ≤ 18446744073709551615) (hl : l.length + room ≤ 140737488355000) :
    Calls Try.prog 120 #[.slice A l.length cb, .int .u64 n, .int .i64 room] w fun e w' => ∃ g, e = .returned (.slice (some ⟨g, 0, none⟩) (l.length + 8) (l.length + 8 + room)) ∧
      w.heap.size ≤ g ∧ Row w' 5 g (l.length + 8 + room) (l ++ fld 8 n) ∧ Below w.heap.size w w' := by
  obtain ⟨i0, hi, hz0, hz1, hz2⟩ := info_parts Try.info5
  have hmk : ∀ (w : World), (Instr.makeSlice 95 (.int .i64 l.length) (.int .i64 (l.length + 8 + room))).run Try.prog w = .ok (.slice (some ⟨w.heap.size, 0, none⟩) l.length (l.length + 8 + room)) (w.alloc (.cells (madeCells #[.int .u8 0] (l.length + 8 + room)) 5)) := fun w => by
    have := run_make (P := Try.prog) w 95 5 i0 (.int .u8 0) Try.underlying95 hi hz0 .i64 .i64 (l.length : Int) (l.length + 8 + room : Int) (by omega) (by omega) (by rw [hz2]; omega) (by omega)
    simpa [hz1, show ((l.length : Int) + 8 + room).toNat = l.length + 8 + room from by omega, Value.cells] using this
  have K1 : Blk (((w.alloc (.cells #[.int .u64 n] 153)).alloc (.cells (madeCells #[.int .u8 0] (l.length + 8 + room)) 5)).alloc (.cells #[.slice (some ⟨w.heap.size + 1, 0, none⟩) l.length (l.length + 8 + room)] 95)) (w.heap.size + 1) 5 (List.replicate (l.length + 8 + room) (.int .u8 0)) := by
    have := (Blk.new (w.alloc (.cells #[.int .u64 n] 153)) 5 (List.replicate (l.length + 8 + room) (.int .u8 0))).alloc (.cells #[.slice (some ⟨w.heap.size + 1, 0, none⟩) l.length (l.length + 8 + room)] 95)
    rw [madeCells_one]
    simpa using this
  have K2 : Blk (((w.alloc (.cells #[.int .u64 n] 153)).alloc (.cells (madeCells #[.int .u8 0] (l.length + 8 + room)) 5)).alloc (.cells #[.slice (some ⟨w.heap.size + 1, 0, none⟩) l.length (l.length + 8 + room)] 95)) w.heap.size 153 [.int .u64 n] :=
    ((Blk.new w 153 [.int .u64 n]).alloc _).alloc _
  have K3 : Blk (((w.alloc (.cells #[.int .u64 n] 153)).alloc (.cells (madeCells #[.int .u8 0] (l.length + 8 + room)) 5)).alloc (.cells #[.slice (some ⟨w.heap.size + 1, 0, none⟩) l.length (l.length + 8 + room)] 95)) (w.heap.size + 2) 95 [.slice (some ⟨w.heap.size + 1, 0, none⟩) l.length (l.length + 8 + room)] := by
    have := Blk.new ((w.alloc (.cells #[.int .u64 n] 153)).alloc (.cells (madeCells #[.int .u8 0] (l.length + 8 + room)) 5)) 95 [.slice (some ⟨w.heap.size + 1, 0, none⟩) l.length (l.length + 8 + room)]
    simpa using this
  have K4 : Below w.heap.size w (((w.alloc (.cells #[.int .u64 n] 153)).alloc (.cells (madeCells #[.int .u8 0] (l.length + 8 + room)) 5)).alloc (.cells #[.slice (some ⟨w.heap.size + 1, 0, none⟩) l.length (l.length + 8 + room)] 95)) :=
    (((Below.refl _ _).alloc (Nat.le_refl _) _).alloc (by simp) _).alloc (by simp; omega) _
  have HA := Lib.hid (hA.below (K4.mono hB))
  have H1 := Lib.hid K1
  have H2 := Lib.hid K2
  have H3 := Lib.hid K3
  have H4 := Lib.hid K4
  clear hA hi hz0 hz1 hz2 K1 K2 K3 K4
  go_enter Try.func120, Try.ntmps120
  go_wp2_with (first
    | (go_at_call 147; refine (bytesOf64 _).mono ?_; rintro e w' ⟨rfl, rfl⟩)
    | (with_reducible refine wpList_copy_all rfl _ _ 95 rfl 5 Try.underlying95 Try.cell5 l (w.heap.size + 1) _ A cb B rfl rfl HA.out _ 5 H1.out (by simp; omega) ?_; intro w1 hg1 ht1))
  refine (each64p _ _ (fun i w'' => Row w'' 5 (w.heap.size + 1) (l.length + 8 + room) (l ++ fldTo 8 n i) ∧ Blk w'' (w.heap.size + 1 + 1) 95 [.slice (some ⟨w.heap.size + 1, 0, none⟩) (l.length + i) (l.length + 8 + room)] ∧
    Blk w'' w.heap.size 153 [.int .u64 n] ∧ Below w.heap.size w w'') ?_ w1 ?_).mono ?_
  · rintro k d w2 hk ⟨hr, ho, hb, hbel⟩ hd
    refine (putStep64 (w.heap.size + 1) (w.heap.size + 1 + 1) w.heap.size (l.length + 8 + room) n (l ++ fldTo 8 n k) k hk d hd w2 hn0 hn1 hr (by simp [len_fldTo]; omega) (by simpa [len_fldTo] using ho) hb (by omega)).mono ?_
    rintro e w3 ⟨rfl, hr', ho', ht⟩
    refine ⟨rfl, by rw [fldTo_succ, ← List.append_assoc]; exact hr', by simpa [len_fldTo, Nat.add_assoc] using ho', hb.turn ht (by omega), hbel.trans (ht.below hbel.size (by omega))⟩
  · exact ⟨⟨_, by simpa [fldTo] using hg1.out, by simp [fldTo]; omega⟩, H3.out.turn ht1 (by omega), H2.out.turn ht1 (by omega), H4.out.trans (ht1.below (by simp; omega) (by omega))⟩
  · rintro e w4 ⟨rfl, hr, ho, hb, hbel⟩
    have hc := ho.cell 0
    have hc' : w4.cell? ⟨w.heap.size + 1 + 1, 0, none⟩ = some (.slice (some ⟨w.heap.size + 1, 0, none⟩) (l.length + 8) (l.length + 8 + room)) := hc
    have HR := Lib.hid hr
    have HB := Lib.hid hbel
    clear hr ho hb hbel hc ht1
    go_wp2
    go_ret
    exact ⟨_, rfl, by omega, HR.out, HB.out⟩

set_option maxHeartbeats 400000 in
theorem put64_any (B : Nat) (A : Option Addr) (cb : Nat) (l : List UInt8) (n : Int) (w : World) (hA : Rd w B A l) (hB : B ≤ w.heap.size) (hl : l.length ≤ 140737488354000) :
    Calls Try.prog 71 #[.slice A l.length cb, .int .i64 n] w fun e w' => ∃ v, e = .returned v ∧
      w'.ownsRow w.heap.size 5 1 v (l ++ fld 8 n).length (bv (l ++ fld 8 n)) ∧ Below w.heap.size w w' := by
  have HW := Lib.hid (fld_wrap64 n)
  have HA := Lib.hid hA
  have h0 : 0 ≤ n % 18446744073709551616 := by omega
  have h1 : n % 18446744073709551616 ≤ 18446744073709551615 := by omega
  clear hA
  go_enter Try.func71, Try.ntmps71
  go_wp2_with (go_at_call 120; refine (putWord64 B A cb l (n % 18446744073709551616) 0 _ HA.out hB h0 h1 (by omega)).mono ?_; rintro e w1 ⟨g, rfl, hg, hr, hb⟩; rw [HW.out] at hr; have HR := Lib.hid hr; clear hr)
  go_ret
  have := HR.out.own hg (by unfold maxLen; omega)
  rw [show (l ++ fld 8 n).length = l.length + 8 from by simp [len_fld]] at this ⊢
  exact ⟨_, rfl, this, hb⟩

/-- A text as it is put: its length's field of 4 bytes, and its bytes. -/
def txt (s : List UInt8) : List UInt8 := fld 4 s.length ++ s
theorem len_txt (s : ByteArray) (l : List UInt8) : (l ++ txt s.data.toList).length = l.length + 4 + s.size := by
  have : s.data.toList.length = s.size := by simp
  simp only [txt, List.length_append, len_fld, this]; omega
theorem bv_txt (s : ByteArray) (l : List UInt8) : bv (l ++ txt s.data.toList) = bv (l ++ fld 4 (s.size : Int)) ++ Lib.strCells s := by
  have : s.data.toList.length = s.size := by simp
  rw [txt, this, ← List.append_assoc, bv_app]
  rfl

theorem own_fld {w : World} {t g cap B k : Nat} {n : Int} {l : List UInt8} (hr : Row w t g cap (l ++ fld k n)) (hg : B ≤ g) (hc : cap ≤ maxLen) :
    w.ownsRow B t 1 (.slice (some ⟨g, 0, none⟩) (l.length + k) cap) (l.length + k) (bv (l ++ fld k n)) := by
  have := hr.own hg hc
  rwa [show (l ++ fld k n).length = l.length + k from by simp [len_fld]] at this

end Go.Proofs.Ytaebhbdmmnpgeaa
