/- Layer 4: the document's disk, a value: its small calls. -/
import Derived.Test.YtcjoinahelmmpaaBlkP
namespace Go.Proofs.Ytcjoinahelmmpaa
open Go.RowKit Go.Maps
set_option linter.unusedVariables false

@[go_sem] def sv (l : List UInt8) : Value := .string ⟨l.toArray⟩
def pv (x : Nat × List UInt8) : List Value := [.int .i64 (x.1 : Int), sv x.2]
/-- The document's disk as it lies in memory: texts of what is kept (of a sector that nobody wrote, none), writes. -/
structure Rm (w : World) (D : Dsk) (ks : List (List UInt8)) (A : Option Addr) (c : Nat) (B : Option Addr) (d : Nat) : Prop where
  kept : w.ownsRow 0 9 1 (.slice A ks.length c) ks.length (ks.map sv)
  pend : w.ownsRow 0 93 2 (.slice B D.pend.length d) D.pend.length (D.pend.flatMap pv)
  full : ks.map full = D.kept
  most : ∀ s ∈ ks, s.length ≤ 128
theorem Rm.still {w w' : World} {D : Dsk} {ks : List (List UInt8)} {A B : Option Addr} {c d : Nat} (h : Rm w D ks A c B d) (ht : Turn (fun _ => False) w w') : Rm w' D ks A c B d :=
  ⟨ownsRow_turn h.kept ht (fun _ _ h => h), ownsRow_turn h.pend ht (fun _ _ h => h), h.full, h.most⟩
theorem Rm.len {w : World} {D : Dsk} {ks : List (List UInt8)} {A B : Option Addr} {c d : Nat} (h : Rm w D ks A c B d) : ks.length = D.kept.length := by rw [← h.full, List.length_map]

set_option maxHeartbeats 1000000 in
theorem burn_r (N : Int) (A B : Option Addr) (n c m d : Nat) (F : Int) (dd : Bool) (hF : -9223372036854775808 ≤ F ∧ F ≤ 9223372036854775807) (w : World) :
    Calls Try.prog 44 #[.agg #[.int .i64 N, .slice A n c, .slice B m d, .int .i64 F, .bool dd]] w fun e w' => e = .returned (.tuple #[.agg #[.int .i64 N, .slice A n c, .slice B m d, .int .i64 (if 0 < F then F - 1 else F), .bool (dd || decide (F = 0))], .bool (!decide (F = 0))]) ∧ Turn (fun _ => False) w w' := by
  rcases Int.lt_trichotomy F 0 with hlt | heq | hgt
  · have n0 : ¬ F = 0 := by omega
    rw [if_neg (by omega), decide_eq_false n0, Bool.or_false, Bool.not_false]
    go_enter Try.func44, Try.ntmps44
    go_wp2
    exact bodyPost_ret (v := .tuple #[.agg #[.int .i64 N, .slice A n c, .slice B m d, .int .i64 F, .bool dd], .bool true]) (by simp [results, Try.results44, go_sem]) rfl ⟨rfl, ((Turn.refl _ _).alloc _).alloc _⟩
  · subst heq
    rw [if_neg (by omega), decide_eq_true rfl, Bool.or_true, Bool.not_true]
    go_enter Try.func44, Try.ntmps44
    go_wp2
    exact bodyPost_ret (v := .tuple #[.agg #[.int .i64 N, .slice A n c, .slice B m d, .int .i64 0, .bool true], .bool false]) (by simp [results, Try.results44, go_sem]) rfl ⟨rfl, ((Turn.refl _ _).alloc _).alloc _⟩
  · have n0 : ¬ F = 0 := by omega
    have hw := wrap_of (F - 1) (by omega) (by omega)
    rw [if_pos hgt, decide_eq_false n0, Bool.or_false, Bool.not_false]
    go_enter Try.func44, Try.ntmps44
    go_wp2
    exact bodyPost_ret (v := .tuple #[.agg #[.int .i64 N, .slice A n c, .slice B m d, .int .i64 (F - 1), .bool dd], .bool true]) (by simp [results, Try.results44, go_sem]) rfl ⟨rfl, ((Turn.refl _ _).alloc _).alloc _⟩
set_option maxHeartbeats 1000000 in
theorem arm_r (N : Int) (A B : Option Addr) (n c m d : Nat) (F : Int) (dd : Bool) (k : Int) (w : World) :
    Calls Try.prog 23 #[.agg #[.int .i64 N, .slice A n c, .slice B m d, .int .i64 F, .bool dd], .int .i64 k] w fun e w' => e = .returned (.tuple #[.agg #[.int .i64 N, .slice A n c, .slice B m d, .int .i64 (if dd then F else max k (-1)), .bool dd], .int .i64 (if dd then 20 else 0)]) ∧ Turn (fun _ => False) w w' := by
  cases dd with
  | true =>
    go_enter Try.func23, Try.ntmps23
    go_wp2
    exact bodyPost_ret (v := .tuple #[.agg #[.int .i64 N, .slice A n c, .slice B m d, .int .i64 F, .bool true], .int .i64 20]) (by simp [results, Try.results23, go_sem]) rfl ⟨rfl, ((Turn.refl _ _).alloc _).alloc _⟩
  | false =>
    by_cases hk : -1 < k
    · rw [show max k (-1) = k from by omega]
      go_enter Try.func23, Try.ntmps23
      go_wp2
      exact bodyPost_ret (v := .tuple #[.agg #[.int .i64 N, .slice A n c, .slice B m d, .int .i64 k, .bool false], .int .i64 0]) (by simp [results, Try.results23, go_sem]) rfl ⟨rfl, ((Turn.refl _ _).alloc _).alloc _⟩
    · rw [show max k (-1) = -1 from by omega]
      go_enter Try.func23, Try.ntmps23
      go_wp2
      exact bodyPost_ret (v := .tuple #[.agg #[.int .i64 N, .slice A n c, .slice B m d, .int .i64 (-1), .bool false], .int .i64 0]) (by simp [results, Try.results23, go_sem]) rfl ⟨rfl, ((Turn.refl _ _).alloc _).alloc _⟩
theorem info_u8_ : (Try.prog.info? 5).map (fun i => (i.zero, i.size, i.bytes)) = some (some (.int .u8 0), 1, 1) := by kernel_rfl
theorem make_bytes_ (n : Nat) (h1 : n ≤ 1000000) (w : World) : (Instr.makeSlice 24 (.int .i64 n) (.int .i64 n)).run Try.prog w = .ok (.slice (some ⟨w.heap.size, 0, none⟩) n n) (w.alloc (.cells (bv (List.replicate n 0)).toArray 5)) := by
  obtain ⟨i, hi, hz, hs, hb⟩ := info_parts_ info_u8_
  have := run_makeSlice (P := Try.prog) (w := w) 24 5 i _ Try.underlying24 hi hz .i64 .i64 n n (Int.natCast_nonneg _) (Int.le_refl _) (by rw [hs]; simp; omega) (by rw [hb]; omega) (by omega)
  rw [this, hs, Int.toNat_natCast, Nat.mul_one, show (Value.int .u8 0).cells = (List.replicate 1 (Value.int .u8 0)).toArray from rfl, made_same 1 _ _ (by decide)]
  simp [bv]
  rfl
set_option maxHeartbeats 1000000 in
theorem full_r (s : ByteArray) (hs : s.size ≤ 128) (w : World) :
    Calls Try.prog 35 #[.string s] w fun e w' => e = .returned (sv (full s.data.toList)) ∧ Turn (fun _ => False) w w' := by
  have hm := make_bytes_ (128 - s.size) (by omega)
  have hw := wrap_of (128 - (s.size : Int)) (by omega) (by omega)
  have hk : ((128 - s.size : Nat) : Int) = 128 - (s.size : Int) := by omega
  have hc := run_str (P := Try.prog) (w.alloc (.cells (bv (List.replicate (128 - s.size) 0)).toArray 5)) 24 9 5 (some ⟨w.heap.size, 0, none⟩) (128 - s.size) (List.replicate (128 - s.size) 0) Try.underlying24 Try.underlying5 Try.underlying9 (fun hp => ⟨⟨w.heap.size, 0, none⟩, rfl, fun j x hj => by
    rw [Addr.add_mid, Nat.zero_add, (Blk.new w 5 (bv (List.replicate (128 - s.size) 0))).cell j]
    simp only [bv, List.getElem?_map, hj]; rfl⟩)
  rw [List.length_replicate] at hc
  have he : (Value.string (s ++ (⟨Array.replicate (128 - s.size) 0⟩ : ByteArray))) = sv (full s.data.toList) := by
    unfold sv
    congr 1
  rw [hk] at hm
  rw [← he]
  clear he
  generalize (128 - s.size : Nat) = K at *
  generalize hX : (bv (List.replicate K 0)).toArray = X at *
  clear hX
  go_enter Try.func35, Try.ntmps35
  go_wp2
  go_ret
  exact ⟨rfl, (Turn.refl _ _).alloc _⟩
/-! ### New -/
theorem info_string_ : (Try.prog.info? 9).map (fun i => (i.zero, i.size, i.bytes)) = some (some (.string ⟨#[]⟩), 1, 16) := by kernel_rfl
theorem make_strings_ (n : Nat) (h1 : n ≤ 1000000) (w : World) : (Instr.makeSlice 43 (.int .i64 n) (.int .i64 n)).run Try.prog w = .ok (.slice (some ⟨w.heap.size, 0, none⟩) n n) (w.alloc (.cells ((List.replicate n ([] : List UInt8)).map sv).toArray 9)) := by
  obtain ⟨i, hi, hz, hs, hb⟩ := info_parts_ info_string_
  have := run_makeSlice (P := Try.prog) (w := w) 43 9 i _ Try.underlying43 hi hz .i64 .i64 n n (Int.natCast_nonneg _) (Int.le_refl _) (by rw [hs]; simp; omega) (by rw [hb]; omega) (by omega)
  rw [this, hs, Int.toNat_natCast, Nat.mul_one, show (Value.string ⟨#[]⟩).cells = (List.replicate 1 (Value.string ⟨#[]⟩)).toArray from rfl, made_same 1 _ _ (by decide)]
  simp
  rfl
theorem own_full_ {w : World} {g t s n : Nat} {xs : List Value} (h : Blk w g t xs) (hx : xs.length = n * s) (hm : n ≤ maxLen) : w.ownsRow 0 t s (.slice (some ⟨g, 0, none⟩) n n) n xs := by
  refine ⟨hx, .inr ⟨g, n, xs.toArray, rfl, Nat.zero_le _, h, Nat.le_refl _, hm, by simpa using hx, ?_⟩⟩
  rw [← hx]
  simp
theorem full_nil_ : full [] = zeros := by simp [full, zeros]
set_option maxHeartbeats 1000000 in
theorem newRef_r (n : Nat) (h0 : 0 < n) (h1 : n ≤ 16384) (w : World) :
    Calls Try.prog 18 #[.int .i64 n] w fun e w' => ∃ g, w.heap.size ≤ g ∧ e = .returned (.tuple #[.agg #[.int .i64 n, .slice (some ⟨g, 0, none⟩) n n, .slice none 0 0, .int .i64 (-1), .bool false], .int .i64 0]) ∧ Rm w' (fresh n) (List.replicate n []) (some ⟨g, 0, none⟩) n none 0 ∧ Turn (fun _ => False) w w' := by
  have hms := make_strings_ n (by omega)
  generalize hC : ((List.replicate n ([] : List UInt8)).map sv).toArray = C at *
  have HC := Lib.hid hC
  have g0 : (1 : Int) ≤ (n : Int) := by omega
  have g1 : (n : Int) ≤ 16384 := by omega
  clear hC h0 h1
  go_enter Try.func18, Try.ntmps18
  go_wp2
  refine bodyPost_ret (v := .tuple #[.agg #[.int .i64 n, .slice (some ⟨w.heap.size + 1, 0, none⟩) n n, .slice none 0 0, .int .i64 (-1), .bool false], .int .i64 0]) (by simp [results, Try.results18, go_sem]) rfl ⟨_, Nat.le_succ _, rfl, ⟨?_, ⟨rfl, .inl ⟨rfl, rfl⟩⟩, ?_, ?_⟩, ((Turn.refl _ _).alloc _).alloc _⟩
  · rw [List.length_replicate]
    refine own_full_ ?_ (by simp) (by unfold maxLen; omega)
    have hb := Blk.new (w.alloc (.cells #[.int .i64 n, .slice (some ⟨w.heap.size + 1, 0, none⟩) n n, .slice none 0 0, .int .i64 (-1), .bool false] 46)) 9 ((List.replicate n ([] : List UInt8)).map sv)
    rw [HC.out] at hb
    simpa using hb
  · rw [List.map_replicate, full_nil_]; rfl
  · intro s hs
    rw [(List.mem_replicate.1 hs).2]
    exact Nat.zero_le _
theorem newRef_err (n : Int) (h : n < 1 ∨ 16384 < n) (w : World) :
    Calls Try.prog 18 #[.int .i64 n] w fun e w' => e = .returned (.tuple #[.agg #[.int .i64 0, .slice none 0 0, .slice none 0 0, .int .i64 0, .bool false], .int .i64 2]) ∧ Turn (fun _ => False) w w' := by
  rcases h with h | h
  · go_enter Try.func18, Try.ntmps18
    go_wp2
    exact bodyPost_ret (v := .tuple #[.agg #[.int .i64 0, .slice none 0 0, .slice none 0 0, .int .i64 0, .bool false], .int .i64 2]) (by simp [results, Try.results18, go_sem]) rfl ⟨rfl, (Turn.refl _ _).alloc _⟩
  · have g0 : 1 ≤ n := by omega
    go_enter Try.func18, Try.ntmps18
    go_wp2
    exact bodyPost_ret (v := .tuple #[.agg #[.int .i64 0, .slice none 0 0, .slice none 0 0, .int .i64 0, .bool false], .int .i64 2]) (by simp [results, Try.results18, go_sem]) rfl ⟨rfl, (Turn.refl _ _).alloc _⟩
/-! ### Errors of Read, Write, Flush -/
set_option maxHeartbeats 1000000 in
theorem readRef_err (N : Int) (A B : Option Addr) (n c m d : Nat) (F : Int) (dd : Bool) (i : Int) (hbad : dd = true ∨ i < 0 ∨ N ≤ i) (w : World) :
    Calls Try.prog 52 #[.agg #[.int .i64 N, .slice A n c, .slice B m d, .int .i64 F, .bool dd], .int .i64 i] w fun e w' => e = .returned (.tuple #[.string ⟨#[]⟩, .int .i64 (if dd then 20 else 6)]) ∧ Turn (fun _ => False) w w' := by
  cases dd with
  | true =>
    clear hbad
    go_enter Try.func52, Try.ntmps52
    go_wp2
    go_ret2
    exact ⟨rfl, (Turn.refl _ _).alloc _⟩
  | false =>
    rcases hbad with h | h | h
    · cases h
    · go_enter Try.func52, Try.ntmps52
      go_wp2
      go_ret2
      exact ⟨rfl, (Turn.refl _ _).alloc _⟩
    · by_cases h0 : i < 0
      · clear h
        go_enter Try.func52, Try.ntmps52
        go_wp2
        go_ret2
        exact ⟨rfl, (Turn.refl _ _).alloc _⟩
      · have h1 : 0 ≤ i := by omega
        clear h0
        go_enter Try.func52, Try.ntmps52
        go_wp2
        go_ret2
        exact ⟨rfl, (Turn.refl _ _).alloc _⟩
set_option maxHeartbeats 1000000 in
theorem writeRef_err (N : Int) (A B : Option Addr) (n c m d : Nat) (F : Int) (dd : Bool) (i : Int) (s : ByteArray) (hbad : dd = true ∨ i < 0 ∨ N ≤ i ∨ 128 < s.size) (w : World) :
    Calls Try.prog 19 #[.agg #[.int .i64 N, .slice A n c, .slice B m d, .int .i64 F, .bool dd], .int .i64 i, .string s] w fun e w' => e = .returned (.tuple #[.agg #[.int .i64 N, .slice A n c, .slice B m d, .int .i64 F, .bool dd], .int .i64 (if dd then 20 else if i < 0 ∨ N ≤ i then 6 else 5)]) ∧ Turn (fun _ => False) w w' := by
  cases dd with
  | true =>
    clear hbad
    go_enter Try.func19, Try.ntmps19
    go_wp2
    exact bodyPost_ret (v := .tuple #[.agg #[.int .i64 N, .slice A n c, .slice B m d, .int .i64 F, .bool true], .int .i64 20]) (by simp [results, Try.results19, go_sem]) rfl ⟨rfl, ((Turn.refl _ _).alloc _).alloc _⟩
  | false =>
    by_cases h0 : i < 0
    · clear hbad
      rw [if_neg (by simp), if_pos (.inl h0)]
      go_enter Try.func19, Try.ntmps19
      go_wp2
      exact bodyPost_ret (v := .tuple #[.agg #[.int .i64 N, .slice A n c, .slice B m d, .int .i64 F, .bool false], .int .i64 6]) (by simp [results, Try.results19, go_sem]) rfl ⟨rfl, ((Turn.refl _ _).alloc _).alloc _⟩
    · have h1 : 0 ≤ i := by omega
      by_cases h2 : N ≤ i
      · clear hbad h0
        rw [if_neg (by simp), if_pos (.inr h2)]
        go_enter Try.func19, Try.ntmps19
        go_wp2
        exact bodyPost_ret (v := .tuple #[.agg #[.int .i64 N, .slice A n c, .slice B m d, .int .i64 F, .bool false], .int .i64 6]) (by simp [results, Try.results19, go_sem]) rfl ⟨rfl, ((Turn.refl _ _).alloc _).alloc _⟩
      · have h3 : i < N := by omega
        have h4 : (128 : Int) < (s.size : Int) := by rcases hbad with h | h | h | h <;> first | cases h | omega
        rw [if_neg (by simp), if_neg (by omega)]
        clear hbad h0 h2
        go_enter Try.func19, Try.ntmps19
        go_wp2
        exact bodyPost_ret (v := .tuple #[.agg #[.int .i64 N, .slice A n c, .slice B m d, .int .i64 F, .bool false], .int .i64 5]) (by simp [results, Try.results19, go_sem]) rfl ⟨rfl, ((Turn.refl _ _).alloc _).alloc _⟩
set_option maxHeartbeats 1000000 in
theorem flushRef_dead (N : Int) (A B : Option Addr) (n c m d : Nat) (F : Int) (w : World) :
    Calls Try.prog 53 #[.agg #[.int .i64 N, .slice A n c, .slice B m d, .int .i64 F, .bool true]] w fun e w' => e = .returned (.tuple #[.agg #[.int .i64 N, .slice A n c, .slice B m d, .int .i64 F, .bool true], .int .i64 20]) ∧ Turn (fun _ => False) w w' := by
  go_enter Try.func53, Try.ntmps53
  go_wp2
  exact bodyPost_ret (v := .tuple #[.agg #[.int .i64 N, .slice A n c, .slice B m d, .int .i64 F, .bool true], .int .i64 20]) (by simp [results, Try.results53, go_sem]) rfl ⟨rfl, ((Turn.refl _ _).alloc _).alloc _⟩
end Go.Proofs.Ytcjoinahelmmpaa
