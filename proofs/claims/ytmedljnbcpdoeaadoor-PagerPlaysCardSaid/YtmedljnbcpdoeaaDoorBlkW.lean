/- Layer 4: the document's disk, a value: its small calls. -/
import Derived.Test.YtmedljnbcpdoeaaDoorBlkP
import Derived.Laws.AppendOwnNone
namespace Go.Proofs.YtmedljnbcpdoeaaDoor
open Go.RowKit Go.Maps
set_option linter.unusedVariables false

@[go_sem] def sv (l : List UInt8) : Value := .string ⟨l.toArray⟩
def pv (x : Nat × List UInt8) : List Value := [.int .i64 (x.1 : Int), sv x.2]
/-- The document's disk as it lies in memory: texts of what is kept (of a sector that nobody wrote, none), writes. -/
structure Rm (w : World) (D : Dsk) (ks : List (List UInt8)) (A : Option Addr) (c : Nat) (B : Option Addr) (d : Nat) : Prop where
  kept : w.ownsRow 0 9 1 (.slice A ks.length c) ks.length (ks.map sv)
  pend : w.ownsRow 0 93 2 (.slice B D.pend.length d) D.pend.length (D.pend.flatMap pv)
  full : ks.map full = D.kept
  most : ∀ s ∈ ks, s.length ≤ 128
theorem Rm.still {w w' : World} {D : Dsk} {ks : List (List UInt8)} {A B : Option Addr} {c d : Nat} (h : Rm w D ks A c B d) (ht : Turn (fun _ => False) w w') : Rm w' D ks A c B d :=
  ⟨ownsRow_turn h.kept ht (fun _ _ h => h), ownsRow_turn h.pend ht (fun _ _ h => h), h.full, h.most⟩
theorem Rm.len {w : World} {D : Dsk} {ks : List (List UInt8)} {A B : Option Addr} {c d : Nat} (h : Rm w D ks A c B d) : ks.length = D.kept.length := by rw [← h.full, List.length_map]

set_option maxHeartbeats 1000000 in
theorem burn_r (N : Int) (A B : Option Addr) (n c m d : Nat) (F : Int) (dd : Bool) (hF : -9223372036854775808 ≤ F ∧ F ≤ 9223372036854775807) (w : World) :
    Calls Tryd.prog 72 #[.agg #[.int .i64 N, .slice A n c, .slice B m d, .int .i64 F, .bool dd]] w fun e w' => e = .returned (.tuple #[.agg #[.int .i64 N, .slice A n c, .slice B m d, .int .i64 (if 0 < F then F - 1 else F), .bool (dd || decide (F = 0))], .bool (!decide (F = 0))]) ∧ Turn (fun _ => False) w w' := by
  rcases Int.lt_trichotomy F 0 with hlt | heq | hgt
  · have n0 : ¬ F = 0 := by omega
    rw [if_neg (by omega), decide_eq_false n0, Bool.or_false, Bool.not_false]
    go_enter Tryd.func72, Tryd.ntmps72
    go_wp2
    exact bodyPost_ret (v := .tuple #[.agg #[.int .i64 N, .slice A n c, .slice B m d, .int .i64 F, .bool dd], .bool true]) (by simp [results, Tryd.results72, go_sem]) rfl ⟨rfl, ((Turn.refl _ _).alloc _).alloc _⟩
  · subst heq
    rw [if_neg (by omega), decide_eq_true rfl, Bool.or_true, Bool.not_true]
    go_enter Tryd.func72, Tryd.ntmps72
    go_wp2
    exact bodyPost_ret (v := .tuple #[.agg #[.int .i64 N, .slice A n c, .slice B m d, .int .i64 0, .bool true], .bool false]) (by simp [results, Tryd.results72, go_sem]) rfl ⟨rfl, ((Turn.refl _ _).alloc _).alloc _⟩
  · have n0 : ¬ F = 0 := by omega
    have hw := wrap_of (F - 1) (by omega) (by omega)
    rw [if_pos hgt, decide_eq_false n0, Bool.or_false, Bool.not_false]
    go_enter Tryd.func72, Tryd.ntmps72
    go_wp2
    exact bodyPost_ret (v := .tuple #[.agg #[.int .i64 N, .slice A n c, .slice B m d, .int .i64 (F - 1), .bool dd], .bool true]) (by simp [results, Tryd.results72, go_sem]) rfl ⟨rfl, ((Turn.refl _ _).alloc _).alloc _⟩
set_option maxHeartbeats 1000000 in
theorem arm_r (N : Int) (A B : Option Addr) (n c m d : Nat) (F : Int) (dd : Bool) (k : Int) (w : World) :
    Calls Tryd.prog 22 #[.agg #[.int .i64 N, .slice A n c, .slice B m d, .int .i64 F, .bool dd], .int .i64 k] w fun e w' => e = .returned (.tuple #[.agg #[.int .i64 N, .slice A n c, .slice B m d, .int .i64 (if dd then F else max k (-1)), .bool dd], .int .i64 (if dd then 20 else 0)]) ∧ Turn (fun _ => False) w w' := by
  cases dd with
  | true =>
    go_enter Tryd.func22, Tryd.ntmps22
    go_wp2
    exact bodyPost_ret (v := .tuple #[.agg #[.int .i64 N, .slice A n c, .slice B m d, .int .i64 F, .bool true], .int .i64 20]) (by simp [results, Tryd.results22, go_sem]) rfl ⟨rfl, ((Turn.refl _ _).alloc _).alloc _⟩
  | false =>
    by_cases hk : -1 < k
    · rw [show max k (-1) = k from by omega]
      go_enter Tryd.func22, Tryd.ntmps22
      go_wp2
      exact bodyPost_ret (v := .tuple #[.agg #[.int .i64 N, .slice A n c, .slice B m d, .int .i64 k, .bool false], .int .i64 0]) (by simp [results, Tryd.results22, go_sem]) rfl ⟨rfl, ((Turn.refl _ _).alloc _).alloc _⟩
    · rw [show max k (-1) = -1 from by omega]
      go_enter Tryd.func22, Tryd.ntmps22
      go_wp2
      exact bodyPost_ret (v := .tuple #[.agg #[.int .i64 N, .slice A n c, .slice B m d, .int .i64 (-1), .bool false], .int .i64 0]) (by simp [results, Tryd.results22, go_sem]) rfl ⟨rfl, ((Turn.refl _ _).alloc _).alloc _⟩
theorem info_u8_ : (Tryd.prog.info? 5).map (fun i => (i.zero, i.size, i.bytes)) = some (some (.int .u8 0), 1, 1) := by kernel_rfl
theorem make_bytes_ (n : Nat) (h1 : n ≤ 1000000) (w : World) : (Instr.makeSlice 47 (.int .i64 n) (.int .i64 n)).run Tryd.prog w = .ok (.slice (some ⟨w.heap.size, 0, none⟩) n n) (w.alloc (.cells (bv (List.replicate n 0)).toArray 5)) := by
  obtain ⟨i, hi, hz, hs, hb⟩ := info_parts_ info_u8_
  have := run_makeSlice (P := Tryd.prog) (w := w) 47 5 i _ Tryd.underlying47 hi hz .i64 .i64 n n (Int.natCast_nonneg _) (Int.le_refl _) (by rw [hs]; simp; omega) (by rw [hb]; omega) (by omega)
  rw [this, hs, Int.toNat_natCast, Nat.mul_one, show (Value.int .u8 0).cells = (List.replicate 1 (Value.int .u8 0)).toArray from rfl, made_same 1 _ _ (by decide)]
  simp [bv]
  rfl
set_option maxHeartbeats 1000000 in
theorem full_r (s : ByteArray) (hs : s.size ≤ 128) (w : World) :
    Calls Tryd.prog 67 #[.string s] w fun e w' => e = .returned (sv (full s.data.toList)) ∧ Turn (fun _ => False) w w' := by
  have hm := make_bytes_ (128 - s.size) (by omega)
  have hw := wrap_of (128 - (s.size : Int)) (by omega) (by omega)
  have hk : ((128 - s.size : Nat) : Int) = 128 - (s.size : Int) := by omega
  have hc := run_str (P := Tryd.prog) (w.alloc (.cells (bv (List.replicate (128 - s.size) 0)).toArray 5)) 47 9 5 (some ⟨w.heap.size, 0, none⟩) (128 - s.size) (List.replicate (128 - s.size) 0) Tryd.underlying47 Tryd.underlying5 Tryd.underlying9 (fun hp => ⟨⟨w.heap.size, 0, none⟩, rfl, fun j x hj => by
    rw [Addr.add_mid, Nat.zero_add, (Blk.new w 5 (bv (List.replicate (128 - s.size) 0))).cell j]
    simp only [bv, List.getElem?_map, hj]; rfl⟩)
  rw [List.length_replicate] at hc
  have he : (Value.string (s ++ (⟨Array.replicate (128 - s.size) 0⟩ : ByteArray))) = sv (full s.data.toList) := by
    unfold sv
    congr 1
  rw [hk] at hm
  rw [← he]
  clear he
  generalize (128 - s.size : Nat) = K at *
  generalize hX : (bv (List.replicate K 0)).toArray = X at *
  clear hX
  go_enter Tryd.func67, Tryd.ntmps67
  go_wp2
  go_ret
  exact ⟨rfl, (Turn.refl _ _).alloc _⟩
/-! ### New -/
theorem info_string_ : (Tryd.prog.info? 9).map (fun i => (i.zero, i.size, i.bytes)) = some (some (.string ⟨#[]⟩), 1, 16) := by kernel_rfl
theorem make_strings_ (n : Nat) (h1 : n ≤ 1000000) (w : World) : (Instr.makeSlice 29 (.int .i64 n) (.int .i64 n)).run Tryd.prog w = .ok (.slice (some ⟨w.heap.size, 0, none⟩) n n) (w.alloc (.cells ((List.replicate n ([] : List UInt8)).map sv).toArray 9)) := by
  obtain ⟨i, hi, hz, hs, hb⟩ := info_parts_ info_string_
  have := run_makeSlice (P := Tryd.prog) (w := w) 29 9 i _ Tryd.underlying29 hi hz .i64 .i64 n n (Int.natCast_nonneg _) (Int.le_refl _) (by rw [hs]; simp; omega) (by rw [hb]; omega) (by omega)
  rw [this, hs, Int.toNat_natCast, Nat.mul_one, show (Value.string ⟨#[]⟩).cells = (List.replicate 1 (Value.string ⟨#[]⟩)).toArray from rfl, made_same 1 _ _ (by decide)]
  simp
  rfl
theorem own_full_ {w : World} {g t s n : Nat} {xs : List Value} (h : Blk w g t xs) (hx : xs.length = n * s) (hm : n ≤ maxLen) : w.ownsRow 0 t s (.slice (some ⟨g, 0, none⟩) n n) n xs := by
  refine ⟨hx, .inr ⟨g, n, xs.toArray, rfl, Nat.zero_le _, h, Nat.le_refl _, hm, by simpa using hx, ?_⟩⟩
  rw [← hx]
  simp
theorem full_nil_ : full [] = zeros := by simp [full, zeros]
set_option maxHeartbeats 1000000 in
theorem newRef_r (n : Nat) (h0 : 0 < n) (h1 : n ≤ 16384) (w : World) :
    Calls Tryd.prog 7 #[.int .i64 n] w fun e w' => ∃ g, w.heap.size ≤ g ∧ e = .returned (.tuple #[.agg #[.int .i64 n, .slice (some ⟨g, 0, none⟩) n n, .slice none 0 0, .int .i64 (-1), .bool false], .int .i64 0]) ∧ Rm w' (fresh n) (List.replicate n []) (some ⟨g, 0, none⟩) n none 0 ∧ Turn (fun _ => False) w w' := by
  have hms := make_strings_ n (by omega)
  generalize hC : ((List.replicate n ([] : List UInt8)).map sv).toArray = C at *
  have HC := Lib.hid hC
  have g0 : (1 : Int) ≤ (n : Int) := by omega
  have g1 : (n : Int) ≤ 16384 := by omega
  clear hC h0 h1
  go_enter Tryd.func7, Tryd.ntmps7
  go_wp2
  refine bodyPost_ret (v := .tuple #[.agg #[.int .i64 n, .slice (some ⟨w.heap.size + 1, 0, none⟩) n n, .slice none 0 0, .int .i64 (-1), .bool false], .int .i64 0]) (by simp [results, Tryd.results7, go_sem]) rfl ⟨_, Nat.le_succ _, rfl, ⟨?_, ⟨rfl, .inl ⟨rfl, rfl⟩⟩, ?_, ?_⟩, ((Turn.refl _ _).alloc _).alloc _⟩
  · rw [List.length_replicate]
    refine own_full_ ?_ (by simp) (by unfold maxLen; omega)
    have hb := Blk.new (w.alloc (.cells #[.int .i64 n, .slice (some ⟨w.heap.size + 1, 0, none⟩) n n, .slice none 0 0, .int .i64 (-1), .bool false] 32)) 9 ((List.replicate n ([] : List UInt8)).map sv)
    rw [HC.out] at hb
    simpa using hb
  · rw [List.map_replicate, full_nil_]; rfl
  · intro s hs
    rw [(List.mem_replicate.1 hs).2]
    exact Nat.zero_le _
theorem newRef_err (n : Int) (h : n < 1 ∨ 16384 < n) (w : World) :
    Calls Tryd.prog 7 #[.int .i64 n] w fun e w' => e = .returned (.tuple #[.agg #[.int .i64 0, .slice none 0 0, .slice none 0 0, .int .i64 0, .bool false], .int .i64 2]) ∧ Turn (fun _ => False) w w' := by
  rcases h with h | h
  · go_enter Tryd.func7, Tryd.ntmps7
    go_wp2
    exact bodyPost_ret (v := .tuple #[.agg #[.int .i64 0, .slice none 0 0, .slice none 0 0, .int .i64 0, .bool false], .int .i64 2]) (by simp [results, Tryd.results7, go_sem]) rfl ⟨rfl, (Turn.refl _ _).alloc _⟩
  · have g0 : 1 ≤ n := by omega
    go_enter Tryd.func7, Tryd.ntmps7
    go_wp2
    exact bodyPost_ret (v := .tuple #[.agg #[.int .i64 0, .slice none 0 0, .slice none 0 0, .int .i64 0, .bool false], .int .i64 2]) (by simp [results, Tryd.results7, go_sem]) rfl ⟨rfl, (Turn.refl _ _).alloc _⟩
/-! ### Errors of Read, Write, Flush -/
set_option maxHeartbeats 1000000 in
theorem writeRef_err (N : Int) (A B : Option Addr) (n c m d : Nat) (F : Int) (dd : Bool) (i : Int) (s : ByteArray) (hbad : dd = true ∨ i < 0 ∨ N ≤ i ∨ 128 < s.size) (w : World) :
    Calls Tryd.prog 61 #[.agg #[.int .i64 N, .slice A n c, .slice B m d, .int .i64 F, .bool dd], .int .i64 i, .string s] w fun e w' => e = .returned (.tuple #[.agg #[.int .i64 N, .slice A n c, .slice B m d, .int .i64 F, .bool dd], .int .i64 (if dd then 20 else if i < 0 ∨ N ≤ i then 6 else 5)]) ∧ Turn (fun _ => False) w w' := by
  cases dd with
  | true =>
    clear hbad
    go_enter Tryd.func61, Tryd.ntmps61
    go_wp2
    exact bodyPost_ret (v := .tuple #[.agg #[.int .i64 N, .slice A n c, .slice B m d, .int .i64 F, .bool true], .int .i64 20]) (by simp [results, Tryd.results61, go_sem]) rfl ⟨rfl, ((Turn.refl _ _).alloc _).alloc _⟩
  | false =>
    by_cases h0 : i < 0
    · clear hbad
      rw [if_neg (by simp), if_pos (.inl h0)]
      go_enter Tryd.func61, Tryd.ntmps61
      go_wp2
      exact bodyPost_ret (v := .tuple #[.agg #[.int .i64 N, .slice A n c, .slice B m d, .int .i64 F, .bool false], .int .i64 6]) (by simp [results, Tryd.results61, go_sem]) rfl ⟨rfl, ((Turn.refl _ _).alloc _).alloc _⟩
    · have h1 : 0 ≤ i := by omega
      by_cases h2 : N ≤ i
      · clear hbad h0
        rw [if_neg (by simp), if_pos (.inr h2)]
        go_enter Tryd.func61, Tryd.ntmps61
        go_wp2
        exact bodyPost_ret (v := .tuple #[.agg #[.int .i64 N, .slice A n c, .slice B m d, .int .i64 F, .bool false], .int .i64 6]) (by simp [results, Tryd.results61, go_sem]) rfl ⟨rfl, ((Turn.refl _ _).alloc _).alloc _⟩
      · have h3 : i < N := by omega
        have h4 : (128 : Int) < (s.size : Int) := by rcases hbad with h | h | h | h <;> first | cases h | omega
        rw [if_neg (by simp), if_neg (by omega)]
        clear hbad h0 h2
        go_enter Tryd.func61, Tryd.ntmps61
        go_wp2
        exact bodyPost_ret (v := .tuple #[.agg #[.int .i64 N, .slice A n c, .slice B m d, .int .i64 F, .bool false], .int .i64 5]) (by simp [results, Tryd.results61, go_sem]) rfl ⟨rfl, ((Turn.refl _ _).alloc _).alloc _⟩
end Go.Proofs.YtmedljnbcpdoeaaDoor
/- Layer 4: the document's disk: what a sector has. -/
namespace Go.Proofs.YtmedljnbcpdoeaaDoor
open Go.RowKit Go.Maps
set_option linter.unusedVariables false

theorem own_at_ {w : World} {b t s n : Nat} {A : Option Addr} {c : Nat} {xs : List Value} (h : w.ownsRow b t s (.slice A n c) n xs) {k : Nat} {u : Value} (hu : xs[k]? = some u) : ∃ g, A = some ⟨g, 0, none⟩ ∧ w.cell? ⟨g, k, none⟩ = some u := by
  obtain ⟨hx, ⟨e, h0⟩ | ⟨g, c', cur, e, hB, hh, hnc, hm, hs, ht⟩⟩ := h
  · subst h0
    rw [Nat.zero_mul] at hx
    rw [List.eq_nil_of_length_eq_zero hx] at hu
    cases hu
  · injection e with e1 e2 e3
    refine ⟨g, e1, ?_⟩
    rw [← ht, List.getElem?_take] at hu
    split at hu
    · simpa [World.cell?, hh] using hu
    · cases hu
theorem own_mono_ {w : World} {B B' t s n : Nat} {v : Value} {xs : List Value} (h : w.ownsRow B t s v n xs) (hb : B' ≤ B) : w.ownsRow B' t s v n xs := by
  obtain ⟨hx, h | ⟨g, c, cur, e, hB, hr⟩⟩ := h
  · exact ⟨hx, .inl h⟩
  · exact ⟨hx, .inr ⟨g, c, cur, e, Nat.le_trans hb hB, hr⟩⟩
theorem len_pv (x : Nat × List UInt8) : (pv x).length = 2 := rfl
theorem Rm.pend_at {w : World} {D : Dsk} {ks : List (List UInt8)} {A B : Option Addr} {c d : Nat} (h : Rm w D ks A c B d) {j : Nat} {x : Nat × List UInt8} (hx : D.pend[j]? = some x) : ∃ g, B = some ⟨g, 0, none⟩ ∧ w.cell? ⟨g, j * 2, none⟩ = some (.int .i64 (x.1 : Int)) ∧ w.cell? ⟨g, j * 2 + 1, none⟩ = some (sv x.2) := by
  have e0 := flat_at pv 2 D.pend (fun y _ => rfl) j 0 x hx (by omega)
  have e1 := flat_at pv 2 D.pend (fun y _ => rfl) j 1 x hx (by omega)
  obtain ⟨g, hg, h0⟩ := own_at_ h.pend (k := j * 2 + 0) (u := .int .i64 (x.1 : Int)) (by rw [e0]; rfl)
  obtain ⟨g', hg', h1⟩ := own_at_ h.pend (k := j * 2 + 1) (u := sv x.2) (by rw [e1]; rfl)
  rw [hg] at hg'
  injection hg' with hg'
  injection hg' with hg'
  subst hg'
  exact ⟨g, hg, h0, h1⟩
theorem Rm.kept_at {w : World} {D : Dsk} {ks : List (List UInt8)} {A B : Option Addr} {c d : Nat} (h : Rm w D ks A c B d) {j : Nat} {s : List UInt8} (hx : ks[j]? = some s) : ∃ g, A = some ⟨g, 0, none⟩ ∧ w.cell? ⟨g, j, none⟩ = some (sv s) :=
  own_at_ h.kept (by rw [List.getElem?_map, hx]; rfl)
theorem overw_no {l : List (Nat × List UInt8)} {i : Nat} (s : List UInt8) (h : ∀ (m : Nat) (y : Nat × List UInt8), l[m]? = some y → y.1 ≠ i) : overw l i s = s := by
  induction l using snoc_ind with
  | h0 => rfl
  | h1 l x ih =>
    rw [overw_snoc, if_neg (h l.length x (by simp))]
    exact ih fun m y hy => h m y (by rw [List.getElem?_append_left (List.getElem?_eq_some_iff.1 hy).1]; exact hy)
theorem overw_last {l : List (Nat × List UInt8)} {i n : Nat} {x : Nat × List UInt8} (s : List UInt8) (hx : l[n]? = some x) (he : x.1 = i) (h : ∀ (m : Nat) (y : Nat × List UInt8), n < m → l[m]? = some y → y.1 ≠ i) : overw l i s = x.2 := by
  induction l using snoc_ind with
  | h0 => cases hx
  | h1 l z ih =>
    rw [overw_snoc]
    have hn : n < l.length + 1 := by have := (List.getElem?_eq_some_iff.1 hx).1; simpa using this
    rcases Nat.lt_or_ge n l.length with hlt | hge
    · rw [if_neg (h l.length z hlt (by simp))]
      rw [List.getElem?_append_left hlt] at hx
      exact ih hx fun m y hm hy => h m y hm (by rw [List.getElem?_append_left (List.getElem?_eq_some_iff.1 hy).1]; exact hy)
    · obtain rfl : n = l.length := by omega
      obtain rfl : z = x := by simpa using hx
      rw [if_pos he]
set_option maxRecDepth 100000 in
set_option maxHeartbeats 4000000 in
theorem has_r {w : World} {D : Dsk} {ks : List (List UInt8)} {A B : Option Addr} {c d : Nat} (h : Rm w D ks A c B d) (i : Nat) (hi : i < D.kept.length) (hp : D.pend.length ≤ 1000000000) (N F : Int) (dd : Bool) :
    Calls Tryd.prog 49 #[.agg #[.int .i64 N, .slice A ks.length c, .slice B D.pend.length d, .int .i64 F, .bool dd], .int .i64 i] w fun e w' => e = .returned (sv (D.has i)) ∧ Turn (fun _ => False) w w' := by
  have hik : i < ks.length := by rw [h.len]; exact hi
  obtain ⟨s, hs⟩ : ∃ s, ks[i]? = some s := ⟨_, List.getElem?_eq_getElem hik⟩
  have hke : D.kept.getD i [] = full s := by rw [← h.full, List.getD_eq_getElem?_getD, List.getElem?_map, hs]; rfl
  have hsm : s.length ≤ 128 := h.most s (List.mem_of_getElem? hs)
  obtain ⟨gA, eA, hcA⟩ := h.kept_at hs
  subst eA
  have HF : Hid (∀ w', Calls Tryd.prog 67 #[sv s] w' fun e w'' => e = .returned (sv (full s)) ∧ Turn (fun _ => False) w' w'') := Lib.hid (fun w' => by
    have := full_r ⟨s.toArray⟩ (by simpa [ByteArray.size] using hsm) w'
    simpa [sv] using this)
  have H := Lib.hid (h.still ((Turn.refl (fun _ => False) w).alloc (.cells #[.int .i64 N, .slice (some ⟨gA, 0, none⟩) ks.length c, .slice B D.pend.length d, .int .i64 F, .bool dd] 32)))
  have hA : Hid ((w.alloc (.cells #[.int .i64 N, .slice (some ⟨gA, 0, none⟩) ks.length c, .slice B D.pend.length d, .int .i64 F, .bool dd] 32)).cell? ⟨gA, i, none⟩ = some (sv s)) := Lib.hid (by
    obtain ⟨g, e, hc⟩ := H.out.kept_at hs
    injection e with e
    injection e with e
    subst e
    exact hc)
  have HH : Hid (∀ x, overw D.pend i (full s) = x → D.has i = x) := Lib.hid (fun x hx => by unfold Dsk.has; rw [hke]; exact hx)
  have hw0 := wrap_of ((D.pend.length : Int) - 1) (by omega) (by omega)
  have hi0 : (0 : Int) ≤ (i : Int) := Int.natCast_nonneg _
  have hi1 : (i : Int) < (ks.length : Int) := by omega
  clear h hs hke hsm hcA
  go_enter Tryd.func49, Tryd.ntmps49
  go_wp2
  go_loopw [5] (fun v wr => ∃ k : Int, -1 ≤ k ∧ k < D.pend.length ∧ v = .int .i64 k ∧ wr = w.alloc (.cells #[.int .i64 N, .slice (some ⟨gA, 0, none⟩) ks.length c, .slice B D.pend.length d, .int .i64 F, .bool dd] 32) ∧ ∀ (m : Nat) (y : Nat × List UInt8), k < (m : Int) → D.pend[m]? = some y → y.1 ≠ i) (fun v _ => (intOf v + 1).toNat)
  case atStart => exact ⟨_, by omega, by omega, rfl, rfl, fun m y hm hy => by have := (List.getElem?_eq_some_iff.1 hy).1; omega⟩
  case round =>
    obtain ⟨k, hk1, hk2, rfl, rfl, hno⟩ := hrel
    have HNO := Lib.hid hno
    clear hno
    by_cases hk : 0 ≤ k
    · obtain ⟨m, rfl⟩ : ∃ m : Nat, k = m := ⟨k.toNat, by omega⟩
      obtain ⟨x, hx⟩ : ∃ x, D.pend[m]? = some x := ⟨_, List.getElem?_eq_getElem (by omega)⟩
      obtain ⟨gB, eB, hc0, hc1⟩ := H.out.pend_at hx
      subst eB
      have HX := Lib.hid hx
      have hwm := wrap_of ((m : Int) - 1) (by omega) (by omega)
      clear hx hw0
      by_cases he : x.1 = i
      · have HE := Lib.hid he
        have ht : ((x.1 : Int) == (i : Int)) = true := by rw [he]; simp
        clear he
        go_wp2
        go_ret
        exact ⟨by rw [HH.out _ (overw_last (full s) HX.out HE.out (fun m' y hm hy => HNO.out m' y (by omega) hy))]; rfl, (Turn.refl _ _).alloc _⟩
      · have HE := Lib.hid he
        have ht : ((x.1 : Int) == (i : Int)) = false := by simpa using (by omega : ¬ (x.1 : Int) = (i : Int))
        have ht' : ¬ ((x.1 : Int) = (i : Int)) := by omega
        clear he
        go_wp2
        go_roundw
        case rel => exact ⟨(m : Int) - 1, by omega, by omega, by go_num, trivial, fun m' y hm hy => by
          by_cases e : m' = m
          · subst e
            rw [HX.out] at hy
            injection hy with hy
            subst hy
            exact HE.out
          · exact HNO.out m' y (by omega) hy⟩
        case measure => simp [intOf] <;> omega
    · obtain rfl : k = -1 := by omega
      have hA' := hA.out
      clear hw0
      go_wp2_with (go_at_call 67; refine (HF.out _).mono ?_; rintro e w' ⟨rfl, ht1⟩)
      go_ret
      exact ⟨by rw [HH.out _ (overw_no (full s) (fun m y hy => HNO.out m y (by omega) hy))]; rfl, ((Turn.refl _ _).alloc _).trans ht1⟩
end Go.Proofs.YtmedljnbcpdoeaaDoor
/- Layer 4: the document's disk: Write. -/
namespace Go.Proofs.YtmedljnbcpdoeaaDoor
open Go.RowKit Go.Maps
set_option linter.unusedVariables false

section
variable {P : Program} {w : World}
/-- An append of a whole row to an own one, the source nil too. -/
theorem wpList_app_row {ops : Array Oper} {rest : List Oper} {o : Oper} {a : Act} {Q : Exit → Act → World → Prop} (hgd : o.guard = none) (s x : Operand) (t : TypeId)
    (ho : o.op = .call { callee := .builtin .append, args := #[s, x], argTypes := #[t, t] })
    (base : Nat) (e : TypeId) (i : TypeInfo) (z : Value) (size bytes : Nat) (ht : P.underlying t = some (.slice e)) (hi : P.info? e = some i) (hz : i.zero = some z)
    (hsize : i.size = size) (hby : i.bytes = bytes) (hzs : z.cells.size = size) (hsz : 0 < size)
    (A : Option Addr) (n c : Nat) (xs : List Value) (hs : a.eval s = .slice A n c) (hown : w.ownsRow base e size (.slice A n c) n xs)
    (B : Option Addr) (m d : Nat) (news : List Value) (hx : a.eval x = .slice B m d) (hsrc : w.ownsRow 0 e size (.slice B m d) m news) (h1 : ∀ u ∈ news, u.oneCell' = true)
    (hbytes : (n + m) * bytes ≤ 140737488355328) (h63 : n + m ≤ maxLen) (hbase : base ≤ w.heap.size)
    (h : ∀ A' c' w', w'.ownsRow base e size (.slice A' (n + m) c') (n + m) (xs ++ news) → Turn (fun k => (Value.slice A n c).ownBlock = some k) w w' → wpList P ops Q rest (a.put o.dst (.slice A' (n + m) c')) w') :
    wpList P ops Q (o :: rest) a w := by
  have hsrc' := hsrc
  obtain ⟨hl, ⟨e0, h0⟩ | ⟨g, cap, cur, e0, _, hh, hnc, _, hcs, htk⟩⟩ := hsrc
  · injection e0 with e1 e2 e3
    subst e1 h0 e3
    rw [Nat.zero_mul] at hl
    obtain rfl := List.eq_nil_of_length_eq_zero hl
    refine wpList_append_own_none hgd s x t ho base e i size ht hi _ n xs hs hown hx ?_
    have := h A c w (by rw [List.append_nil]; exact hown) (Turn.refl _ _)
    exact this
  · injection e0 with e1 e2 e3
    subst e1 e3
    refine wpList_append_own_at w hgd s x t ho base e i z size bytes ht hi hz hsize hby hzs hsz _ n xs hs hown ⟨g, 0, none⟩ m d news hx hl (fun j u hu => ?_) h1 h63 hbytes hbase ?_
    · rw [Addr.add_mid]
      obtain ⟨g', eg, hc⟩ := own_at_ hsrc' hu
      injection eg with eg
      injection eg with eg
      subst eg
      simpa using hc
    · intro v' w' ho' hg' _ _
      have ht' : Turn (fun k => (Value.slice A n c).ownBlock = some k) w w' := turn_grown_ hg'
      obtain ⟨hl', ⟨rfl, h0⟩ | ⟨g', c', cur', rfl, hr⟩⟩ := ho'
      · have := h none 0 w' (by rw [h0] at hl' ⊢; exact ⟨hl', .inl ⟨rfl, rfl⟩⟩) ht'
        rw [h0] at this
        exact this
      · exact h _ _ w' ⟨hl', .inr ⟨g', c', cur', rfl, hr⟩⟩ ht'
end
theorem info_rw : (Tryd.prog.info? 93).map (fun i => (i.zero, i.size, i.bytes)) = some (some (.agg #[.int .i64 0, .string ⟨#[]⟩]), 2, 24) := by kernel_rfl
theorem one_pv (x : Nat × List UInt8) : ∀ u ∈ pv x, u.oneCell' = true := fun u hu => by
  simp [pv] at hu; rcases hu with rfl | rfl <;> rfl
theorem one_pvs (l : List (Nat × List UInt8)) : ∀ u ∈ l.flatMap pv, u.oneCell' = true := fun u hu => by
  obtain ⟨x, _, hx⟩ := List.mem_flatMap.1 hu; exact one_pv x u hx
theorem own_new_ {w : World} {t s : Nat} : (w.alloc (.cells #[] t)).ownsRow w.heap.size t s (.slice (some ⟨w.heap.size, 0, none⟩) 0 0) 0 [] :=
  ⟨by simp, .inr ⟨_, 0, #[], rfl, Nat.le_refl _, heap_alloc_new w _, Nat.le_refl _, by simp [maxLen], by simp, by simp⟩⟩
set_option maxRecDepth 100000 in
set_option maxHeartbeats 4000000 in
theorem writeRef_r {w : World} {D : Dsk} {ks : List (List UInt8)} {A B : Option Addr} {c d : Nat} (h : Rm w D ks A c B d) (i : Nat) (hi : i < D.kept.length) (hp : D.pend.length ≤ 1000000) (F : Int) (hF : -9223372036854775808 ≤ F ∧ F ≤ 9223372036854775807) (hF0 : F ≠ 0) (s : ByteArray) (hs : s.size ≤ 128) :
    Calls Tryd.prog 61 #[.agg #[.int .i64 D.kept.length, .slice A ks.length c, .slice B D.pend.length d, .int .i64 F, .bool false], .int .i64 i, .string s] w fun e w' => ∃ B' d', e = .returned (.tuple #[.agg #[.int .i64 D.kept.length, .slice A ks.length c, .slice B' (D.pend.length + 1) d', .int .i64 (if 0 < F then F - 1 else F), .bool false], .int .i64 0]) ∧ w'.ownsRow w.heap.size 93 2 (.slice B' (D.pend.length + 1) d') (D.pend.length + 1) ((D.pend ++ [(i, full s.data.toList)]).flatMap pv) ∧ Turn (fun _ => False) w w' := by
  have HB : Hid (∀ W, Calls Tryd.prog 72 #[.agg #[.int .i64 D.kept.length, .slice A ks.length c, .slice B D.pend.length d, .int .i64 F, .bool false]] W fun e w' => e = .returned (.tuple #[.agg #[.int .i64 D.kept.length, .slice A ks.length c, .slice B D.pend.length d, .int .i64 (if 0 < F then F - 1 else F), .bool false], .bool true]) ∧ Turn (fun _ => False) W w') := Lib.hid (fun W => by
    have := burn_r D.kept.length A B ks.length c D.pend.length d F false hF W
    rw [decide_eq_false hF0] at this
    exact this)
  obtain ⟨F', hF'⟩ : ∃ F', (if 0 < F then F - 1 else F) = F' := ⟨_, rfl⟩
  rw [hF'] at HB ⊢
  have hi0 : (0 : Int) ≤ (i : Int) := Int.natCast_nonneg _
  have hi1 : (i : Int) < (D.kept.length : Int) := by omega
  have hs1 : (s.size : Int) ≤ 128 := by omega
  have HFU := Lib.hid (full_r s hs)
  have HP := Lib.hid (fun W (ht : Turn (fun _ => False) w W) => (h.still ht).pend)
  have HW0 := Lib.hid (Blk.new w 32 [.int .i64 D.kept.length, .slice A ks.length c, .slice B D.pend.length d, .int .i64 F, .bool false])
  obtain ⟨G, hG⟩ : ∃ G, full s.data.toList = G := ⟨_, rfl⟩
  rw [hG] at HFU ⊢
  clear h hF' hi hs hG
  go_enter Tryd.func61, Tryd.ntmps61
  go_wp2_with fail
  refine (HB.out _).mono ?_
  obtain ⟨X, hX⟩ : ∃ X : Array Value, #[.int .i64 (D.kept.length : Int), .slice A ks.length c, .slice B D.pend.length d, .int .i64 F', .bool false] = X := ⟨_, rfl⟩
  rw [hX]
  rintro e w1 ⟨rfl, ht1⟩
  have hb := HW0.out.alloc (.cells #[.int .i64 0, .slice none 0 0, .slice none 0 0, .int .i64 0, .bool false] 32)
  have hr := Blk.new_ (w.alloc (.cells #[.int .i64 D.kept.length, .slice A ks.length c, .slice B D.pend.length d, .int .i64 F, .bool false] 32)) 32 [.int .i64 0, .slice none 0 0, .slice none 0 0, .int .i64 0, .bool false] (k := w.heap.size + 1) (by simp)
  have hb1 := hb.turn ht1 (fun h => h)
  have hr1 := hr.turn ht1 (fun h => h)
  have T1 := Lib.hid (((((Turn.refl (fun _ => False) w).alloc (.cells #[.int .i64 D.kept.length, .slice A ks.length c, .slice B D.pend.length d, .int .i64 F, .bool false] 32)).alloc (.cells #[.int .i64 0, .slice none 0 0, .slice none 0 0, .int .i64 0, .bool false] 32))).trans ht1)
  have HB1 := Lib.hid hb1
  have HR1 := Lib.hid hr1
  have HTH : Hid (w1.there w.heap.size 0 X.size) := Lib.hid (by rw [← hX]; exact hb1.there 0 5 (by simp))
  have HO : Hid (X.all (·.oneCell') = true) := Lib.hid (by rw [← hX]; simp [Value.oneCell'])
  have HI : Hid ((Tryd.prog.info? 32).map (·.size) = some X.size) := Lib.hid (by rw [← hX]; kernel_rfl)
  have hb2 := Blk.setCells [.int .i64 D.kept.length, .slice A ks.length c, .slice B D.pend.length d, .int .i64 F', .bool false] 0 w1 _ hb1 (by simp)
  have tw := Turn.setCells (S := (· = w.heap.size)) (g := w.heap.size) [.int .i64 D.kept.length, .slice A ks.length c, .slice B D.pend.length d, .int .i64 F', .bool false] 0 (Turn.refl _ w1) (.inl rfl)
  obtain ⟨W1, hW1⟩ : ∃ W, w1.setCells w.heap.size 0 [.int .i64 D.kept.length, .slice A ks.length c, .slice B D.pend.length d, .int .i64 F', .bool false] = W := ⟨_, rfl⟩
  rw [hW1] at hb2 tw
  have hW2 : w1.setCells w.heap.size 0 X.toList = W1 := by rw [← hX]; exact hW1
  simp only [List.take, List.drop, List.length, List.nil_append, List.cons_append, Nat.zero_add] at hb2
  have HW2 := Lib.hid hW2
  have HB2 := Lib.hid hb2
  have HR2 := Lib.hid (hr1.turn tw (by omega))
  have T2 := Lib.hid (T1.out.trans_new tw (fun k hk e => by omega))
  have hb3 := hb2.alloc (.cells #[] 93)
  have b2 := hb3.cell 2
  simp only [List.getElem?_cons_zero, List.getElem?_cons_succ] at b2
  have hlt := HR2.out.lt
  have hne : w.heap.size ≠ W1.heap.size := by omega
  have HP1 := Lib.hid (ownsRow_turn (HP.out _ T2.out) ((Turn.refl (fun _ => False) W1).alloc (.cells #[] 93)) (fun _ _ h => h))
  obtain ⟨j0, hj, hjz, hjs, hjb⟩ := info_parts_ info_rw
  have HJ := Lib.hid hj
  have HJZ := Lib.hid hjz
  have HJS := Lib.hid hjs
  have HJB := Lib.hid hjb
  clear hb hr hb1 hr1 ht1 hX hW1 hW2 hb2 hb3 tw hj hjz hjs hjb
  go_wp2_with (first
    | (refine wpList_store_mid rfl 32 _ _ rfl w.heap.size 0 X rfl rfl HTH.out HI.out HO.out ?_; rw [HW2.out])
    | (at_builtin; refine wpList_app_row rfl _ _ 30 rfl W1.heap.size 93 j0 _ 2 24 Tryd.underlying30 HJ.out HJZ.out HJS.out HJB.out (by rfl) (by decide) (some ⟨W1.heap.size, 0, none⟩) 0 0 [] rfl own_new_ B D.pend.length d (D.pend.flatMap pv) rfl HP1.out (one_pvs _) (by omega) (by unfold maxLen; omega) (by simp) ?_; intro A3 c3 w3 ho3 ht3; simp only [Nat.zero_add, List.nil_append] at ho3; have O3 := Lib.hid ho3; have X3 := Lib.hid ht3; clear ho3 ht3)
    | (at_builtin; refine wpList_app_row rfl _ _ 30 rfl W1.heap.size 93 j0 _ 2 24 Tryd.underlying30 HJ.out HJZ.out HJS.out HJB.out (by rfl) (by decide) A3 D.pend.length c3 (D.pend.flatMap pv) rfl (ownsRow_turn O3.out (X4.out.alloc _) (fun _ _ h => h)) (some ⟨w4.heap.size, 0, none⟩) 1 1 (pv (i, G)) rfl (own_full_ (Blk.new w4 93 (pv (i, G))) rfl (by decide)) (one_pv _) (by omega) (by unfold maxLen; omega) (by have s3 := X3.out.size; have s4 := X4.out.size; simp at s3 ⊢; omega) ?_; intro A6 c6 w6 ho6 ht6; have O6 := Lib.hid ho6
       have TT : Turn (fun _ => False) W1 w6 := by
         have t3 : Turn (fun _ => False) W1 w3 := ((Turn.refl (fun _ => False) W1).alloc _).trans_new X3.out (fun k hk e => by simp [Value.ownBlock] at e; omega)
         exact ((t3.trans X4.out).alloc _).trans_new ht6 (fun k hk e => by have := own_ge_ O3.out _ e; omega)
       have hb6 := HB2.out.turn TT (fun h => h)
       have hr6 := HR2.out.turn TT (fun h => h)
       have HB6 := Lib.hid hb6
       have HR6 := Lib.hid hr6
       have b0 := hb6.cell 0
       have b1 := hb6.cell 1
       have b22 := hb6.cell 2
       have b3 := hb6.cell 3
       have b4 := hb6.cell 4
       have f2 := hb6.free 2
       have r0 := hr6.cell 0
       have r1 := hr6.cell 1
       have r2 := hr6.cell 2
       have r3 := hr6.cell 3
       have r4 := hr6.cell 4
       have g0 := hr6.free 0
       have g1 := hr6.free 1
       have g2 := hr6.free 2
       have g3 := hr6.free 3
       have g4 := hr6.free 4
       simp only [List.getElem?_cons_zero, List.getElem?_cons_succ] at b0 b1 b22 b3 b4 r0 r1 r2 r3 r4
       have TW := Lib.hid (T2.out.trans TT)
       clear ho6 ht6 hb6 hr6 TT b2)
    | (go_at_call 67; refine (HFU.out _).mono ?_; rintro e w4 ⟨rfl, ht4⟩; have X4 := Lib.hid ht4; clear ht4))
  have hf := (((((HR6.out.far (p := ⟨w.heap.size, 2, none⟩) (by simp) (.slice A6 (D.pend.length + 1) c6)).put 0 (.int .i64 (D.kept.length : Int))).put 1 (.slice A ks.length c)).put 2 (.slice A6 (D.pend.length + 1) c6)).put 3 (.int .i64 F')).put 4 (.bool false)
  have tf := ((((((Turn.refl (fun k => k = w.heap.size ∨ k = w.heap.size + 1) w6).setCell (p := ⟨w.heap.size, 2, none⟩) (.inl (.inl rfl)) (.slice A6 (D.pend.length + 1) c6)).setCell (p := ⟨w.heap.size + 1, 0, none⟩) (.inl (.inr rfl)) (.int .i64 (D.kept.length : Int))).setCell (p := ⟨w.heap.size + 1, 1, none⟩) (.inl (.inr rfl)) (.slice A ks.length c)).setCell (p := ⟨w.heap.size + 1, 2, none⟩) (.inl (.inr rfl)) (.slice A6 (D.pend.length + 1) c6)).setCell (p := ⟨w.heap.size + 1, 3, none⟩) (.inl (.inr rfl)) (.int .i64 F')).setCell (p := ⟨w.heap.size + 1, 4, none⟩) (.inl (.inr rfl)) (.bool false)
  have hown := ownsRow_turn (own_mono_ O6.out (B' := w.heap.size) (by omega)) tf (fun k hk e => by have := own_ge_ O6.out k hk; omega)
  have htt := TW.out.trans_new tf (fun k hk e => by omega)
  have e0 := hf.cell 0
  have e1 := hf.cell 1
  have e2 := hf.cell 2
  have e3 := hf.cell 3
  have e4 := hf.cell 4
  simp only [List.set_cons_zero, List.set_cons_succ, List.getElem?_cons_zero, List.getElem?_cons_succ] at e0 e1 e2 e3 e4
  have HG : (D.pend ++ [(i, G)]).flatMap pv = D.pend.flatMap pv ++ pv (i, G) := by rw [List.flatMap_append]; simp
  rw [← HG] at hown
  clear b0 b1 b22 b3 b4 f2 r0 r1 r2 r3 r4 g0 g1 g2 g3 g4 tf hf HG
  generalize ((((((w6.setCell ⟨w.heap.size, 2, none⟩ (.slice A6 (D.pend.length + 1) c6)).setCell ⟨w.heap.size + 1, 0, none⟩ (.int .i64 (D.kept.length : Int))).setCell ⟨w.heap.size + 1, 1, none⟩ (.slice A ks.length c)).setCell ⟨w.heap.size + 1, 2, none⟩ (.slice A6 (D.pend.length + 1) c6)).setCell ⟨w.heap.size + 1, 3, none⟩ (.int .i64 F')).setCell ⟨w.heap.size + 1, 4, none⟩ (.bool false)) = WF at *
  exact bodyPost_ret (v := .tuple #[.agg #[.int .i64 D.kept.length, .slice A ks.length c, .slice A6 (D.pend.length + 1) c6, .int .i64 F', .bool false], .int .i64 0]) (by simp [results, Tryd.results61, go_sem, e0, e1, e2, e3, e4]) rfl ⟨A6, c6, rfl, hown, htt⟩
/-! ### The fuse goes off. -/
set_option maxRecDepth 100000 in
set_option maxHeartbeats 4000000 in
theorem writeRef_off (N : Int) (A B : Option Addr) (n c m d : Nat) (i : Int) (h0 : 0 ≤ i) (h1 : i < N) (s : ByteArray) (hs : s.size ≤ 128) (w : World) :
    Calls Tryd.prog 61 #[.agg #[.int .i64 N, .slice A n c, .slice B m d, .int .i64 0, .bool false], .int .i64 i, .string s] w fun e w' => e = .returned (.tuple #[.agg #[.int .i64 N, .slice A n c, .slice B m d, .int .i64 0, .bool true], .int .i64 20]) ∧ Turn (fun _ => False) w w' := by
  have HB : Hid (∀ W, Calls Tryd.prog 72 #[.agg #[.int .i64 N, .slice A n c, .slice B m d, .int .i64 0, .bool false]] W fun e w' => e = .returned (.tuple #[.agg #[.int .i64 N, .slice A n c, .slice B m d, .int .i64 0, .bool true], .bool false]) ∧ Turn (fun _ => False) W w') := Lib.hid (fun W => burn_r N A B n c m d 0 false (by omega) W)
  have HW0 := Lib.hid (Blk.new w 32 [.int .i64 N, .slice A n c, .slice B m d, .int .i64 0, .bool false])
  have hs1 : (s.size : Int) ≤ 128 := by omega
  go_enter Tryd.func61, Tryd.ntmps61
  go_wp2_with fail
  refine (HB.out _).mono ?_
  obtain ⟨X, hX⟩ : ∃ X : Array Value, #[.int .i64 N, .slice A n c, .slice B m d, .int .i64 0, .bool true] = X := ⟨_, rfl⟩
  rw [hX]
  rintro e w1 ⟨rfl, ht1⟩
  have hb := HW0.out.alloc (.cells #[.int .i64 0, .slice none 0 0, .slice none 0 0, .int .i64 0, .bool false] 32)
  have hr := Blk.new_ (w.alloc (.cells #[.int .i64 N, .slice A n c, .slice B m d, .int .i64 0, .bool false] 32)) 32 [.int .i64 0, .slice none 0 0, .slice none 0 0, .int .i64 0, .bool false] (k := w.heap.size + 1) (by simp)
  have hb1 := hb.turn ht1 (fun h => h)
  have hr1 := hr.turn ht1 (fun h => h)
  have T1 := Lib.hid (((((Turn.refl (fun _ => False) w).alloc (.cells #[.int .i64 N, .slice A n c, .slice B m d, .int .i64 0, .bool false] 32)).alloc (.cells #[.int .i64 0, .slice none 0 0, .slice none 0 0, .int .i64 0, .bool false] 32))).trans ht1)
  have HTH : Hid (w1.there w.heap.size 0 X.size) := Lib.hid (by rw [← hX]; exact hb1.there 0 5 (by simp))
  have HO : Hid (X.all (·.oneCell') = true) := Lib.hid (by rw [← hX]; simp [Value.oneCell'])
  have HI : Hid ((Tryd.prog.info? 32).map (·.size) = some X.size) := Lib.hid (by rw [← hX]; kernel_rfl)
  have hb2 := Blk.setCells [.int .i64 N, .slice A n c, .slice B m d, .int .i64 0, .bool true] 0 w1 _ hb1 (by simp)
  have tw := Turn.setCells (S := (· = w.heap.size)) (g := w.heap.size) [.int .i64 N, .slice A n c, .slice B m d, .int .i64 0, .bool true] 0 (Turn.refl _ w1) (.inl rfl)
  obtain ⟨W1, hW1⟩ : ∃ W, w1.setCells w.heap.size 0 [.int .i64 N, .slice A n c, .slice B m d, .int .i64 0, .bool true] = W := ⟨_, rfl⟩
  rw [hW1] at hb2 tw
  have hW2 : w1.setCells w.heap.size 0 X.toList = W1 := by rw [← hX]; exact hW1
  simp only [List.take, List.drop, List.length, List.nil_append, List.cons_append, Nat.zero_add] at hb2
  have HW2 := Lib.hid hW2
  have hr2 := hr1.turn tw (by omega)
  have HR2 := Lib.hid hr2
  have T2 := Lib.hid (T1.out.trans_new tw (fun k hk e => by omega))
  have b0 := hb2.cell 0
  have b1 := hb2.cell 1
  have b2 := hb2.cell 2
  have b3 := hb2.cell 3
  have b4 := hb2.cell 4
  have r0 := hr2.cell 0
  have r1 := hr2.cell 1
  have r2 := hr2.cell 2
  have r3 := hr2.cell 3
  have r4 := hr2.cell 4
  have g0 := hr2.free 0
  have g1 := hr2.free 1
  have g2 := hr2.free 2
  have g3 := hr2.free 3
  have g4 := hr2.free 4
  simp only [List.getElem?_cons_zero, List.getElem?_cons_succ] at b0 b1 b2 b3 b4 r0 r1 r2 r3 r4
  clear hb hr hb1 hr1 ht1 hX hW1 hW2 hb2 hr2 tw
  go_wp2_with (refine wpList_store_mid rfl 32 _ _ rfl w.heap.size 0 X rfl rfl HTH.out HI.out HO.out ?_; rw [HW2.out])
  have hf := ((((HR2.out.put 0 (.int .i64 N)).put 1 (.slice A n c)).put 2 (.slice B m d)).put 3 (.int .i64 0)).put 4 (.bool true)
  have tf := (((((Turn.refl (fun k => k = w.heap.size + 1) W1).setCell (p := ⟨w.heap.size + 1, 0, none⟩) (.inl rfl) (.int .i64 N)).setCell (p := ⟨w.heap.size + 1, 1, none⟩) (.inl rfl) (.slice A n c)).setCell (p := ⟨w.heap.size + 1, 2, none⟩) (.inl rfl) (.slice B m d)).setCell (p := ⟨w.heap.size + 1, 3, none⟩) (.inl rfl) (.int .i64 0)).setCell (p := ⟨w.heap.size + 1, 4, none⟩) (.inl rfl) (.bool true)
  have htt := T2.out.trans_new tf (fun k hk e => by omega)
  have e0 := hf.cell 0
  have e1 := hf.cell 1
  have e2 := hf.cell 2
  have e3 := hf.cell 3
  have e4 := hf.cell 4
  simp only [List.set_cons_zero, List.set_cons_succ, List.getElem?_cons_zero, List.getElem?_cons_succ] at e0 e1 e2 e3 e4
  clear b0 b1 b2 b3 b4 r0 r1 r2 r3 r4 g0 g1 g2 g3 g4 tf hf
  generalize (((((W1.setCell ⟨w.heap.size + 1, 0, none⟩ (.int .i64 N)).setCell ⟨w.heap.size + 1, 1, none⟩ (.slice A n c)).setCell ⟨w.heap.size + 1, 2, none⟩ (.slice B m d)).setCell ⟨w.heap.size + 1, 3, none⟩ (.int .i64 0)).setCell ⟨w.heap.size + 1, 4, none⟩ (.bool true)) = WF at *
  exact bodyPost_ret (v := .tuple #[.agg #[.int .i64 N, .slice A n c, .slice B m d, .int .i64 0, .bool true], .int .i64 20]) (by simp [results, Tryd.results61, go_sem, e0, e1, e2, e3, e4]) rfl ⟨rfl, htt⟩
end Go.Proofs.YtmedljnbcpdoeaaDoor
/- Layer 4: the document's disk: what is kept behind writes. -/
namespace Go.Proofs.YtmedljnbcpdoeaaDoor
open Go.RowKit Go.Maps
set_option linter.unusedVariables false

def setAll (ks : List (List UInt8)) (l : List (Nat × List UInt8)) : List (List UInt8) := l.foldl (fun ks x => ks.set x.1 x.2) ks
theorem setAll_snoc (ks : List (List UInt8)) (l : List (Nat × List UInt8)) (x : Nat × List UInt8) : setAll ks (l ++ [x]) = (setAll ks l).set x.1 x.2 := by simp [setAll]
theorem setAll_len (l : List (Nat × List UInt8)) : ∀ ks : List (List UInt8), (setAll ks l).length = ks.length := by
  induction l with
  | nil => intro ks; rfl
  | cons x l ih => intro ks; show (setAll (ks.set x.1 x.2) l).length = _; rw [ih, List.length_set]
theorem full_full {l : List UInt8} (h : l.length = 128) : full l = l := by simp [full, h]
theorem setAll_full : ∀ (l : List (Nat × List UInt8)) (ks : List (List UInt8)) (D : Dsk), (∀ x ∈ l, x.2.length = 128) → ks.map full = D.kept → (setAll ks l).map full = (D.keepAll l).kept
  | [], ks, D, _, h => h
  | x :: l, ks, D, hl, h => by
    refine setAll_full l (ks.set x.1 x.2) (D.keepW x) (fun y hy => hl y (by simp [hy])) ?_
    rw [List.map_set, full_full (hl x (by simp)), h]
    rfl
theorem setAll_most : ∀ (l : List (Nat × List UInt8)) (ks : List (List UInt8)), (∀ x ∈ l, x.2.length ≤ 128) → (∀ s ∈ ks, s.length ≤ 128) → ∀ s ∈ setAll ks l, s.length ≤ 128
  | [], ks, _, h => h
  | x :: l, ks, hl, h => setAll_most l (ks.set x.1 x.2) (fun y hy => hl y (by simp [hy])) (fun s hs => by
    rcases List.mem_or_eq_of_mem_set hs with h1 | h1
    · exact h s h1
    · rw [h1]; exact hl x (by simp))
theorem own_new2_ {w : World} {t s k : Nat} (hk : w.heap.size = k) : (w.alloc (.cells #[] t)).ownsRow k t s (.slice (some ⟨k, 0, none⟩) 0 0) 0 [] := hk ▸ own_new_
theorem one_sv (ks : List (List UInt8)) : ∀ u ∈ ks.map sv, u.oneCell' = true := fun u hu => by
  obtain ⟨x, _, rfl⟩ := List.mem_map.1 hu; rfl
/-- A cell of an own row is set. -/
theorem own_set_ {w : World} {b t n : Nat} {A : Option Addr} {c : Nat} {xs : List Value} (h : w.ownsRow b t 1 (.slice A n c) n xs) {k : Nat} (hk : k < n) (u : Value) :
    ∃ g, A = some ⟨g, 0, none⟩ ∧ (∃ v, w.cell? ⟨g, k, none⟩ = some v) ∧ w.frozen? ⟨g, k, none⟩ = false ∧ b ≤ g ∧ (w.setCell ⟨g, k, none⟩ u).ownsRow b t 1 (.slice A n c) n (xs.set k u) := by
  obtain ⟨hx, ⟨e, h0⟩ | ⟨g, c', cur, e, hB, hh, hnc, hm, hs, ht⟩⟩ := h
  · omega
  · injection e with e1 e2 e3
    subst e3
    have hb : Blk w g t cur.toList := hh
    have hp := hb.put k u
    have hks : k < cur.toList.length := by rw [Array.length_toList]; omega
    refine ⟨g, e1, ⟨_, (hb.cell k).trans (List.getElem?_eq_getElem hks)⟩, hb.free k, hB, by simpa using hx, .inr ⟨g, c, (cur.toList.set k u).toArray, by rw [e1], hB, hp, hnc, hm, by simpa using hs, ?_⟩⟩
    rw [Nat.mul_one] at ht ⊢
    rw [← ht]
    rw [List.take_set]
set_option maxRecDepth 100000 in
set_option maxHeartbeats 4000000 in
theorem kept_r (N : Int) (A B L : Option Addr) (ks : List (List UInt8)) (c m d dl : Nat) (F : Int) (dd : Bool) (ls : List (Nat × List UInt8)) (hls : ∀ x ∈ ls, x.1 < ks.length) (hk0 : 0 < ks.length) (hk1 : ks.length ≤ 16384) (hll : ls.length ≤ 1000000) (w : World)
    (hA : w.ownsRow 0 9 1 (.slice A ks.length c) ks.length (ks.map sv)) (hL : w.ownsRow 0 93 2 (.slice L ls.length dl) ls.length (ls.flatMap pv)) :
    Calls Tryd.prog 53 #[.agg #[.int .i64 N, .slice A ks.length c, .slice B m d, .int .i64 F, .bool dd], .slice L ls.length dl] w fun e w' => ∃ A' c', e = .returned (.agg #[.int .i64 N, .slice A' ks.length c', .slice none 0 0, .int .i64 F, .bool dd]) ∧ w'.ownsRow w.heap.size 9 1 (.slice A' ks.length c') ks.length ((setAll ks ls).map sv) ∧ Turn (fun _ => False) w w' := by
  obtain ⟨j0, hj, hjz, hjs, hjb⟩ := info_parts_ info_string_
  have HJ := Lib.hid hj
  have HJZ := Lib.hid hjz
  have HJS := Lib.hid hjs
  have HJB := Lib.hid hjb
  clear hj hjz hjs hjb
  have HL := Lib.hid hL
  have HA := Lib.hid hA
  have HLS := Lib.hid hls
  clear hA hL hls
  have hb := ((Blk.new w 32 [.int .i64 N, .slice A ks.length c, .slice B m d, .int .i64 F, .bool dd]).alloc (.cells #[.int .i64 0, .slice none 0 0, .slice none 0 0, .int .i64 0, .bool false] 32)).alloc (.cells #[] 9)
  have hr := (Blk.new_ (w.alloc (.cells #[.int .i64 N, .slice A ks.length c, .slice B m d, .int .i64 F, .bool dd] 32)) 32 [.int .i64 0, .slice none 0 0, .slice none 0 0, .int .i64 0, .bool false] (k := w.heap.size + 1) (by simp)).alloc (.cells #[] 9)
  have HB0 := Lib.hid hb
  have HR0 := Lib.hid hr
  have T0 := Lib.hid ((((Turn.refl (fun _ => False) w).alloc (.cells #[.int .i64 N, .slice A ks.length c, .slice B m d, .int .i64 F, .bool dd] 32)).alloc (.cells #[.int .i64 0, .slice none 0 0, .slice none 0 0, .int .i64 0, .bool false] 32)).alloc (.cells #[] 9))
  clear hb hr
  go_enter Tryd.func53, Tryd.ntmps53
  go_wp2_with (at_builtin; refine wpList_app_row rfl _ _ 29 rfl (w.heap.size + 1 + 1) 9 j0 _ 1 16 Tryd.underlying29 HJ.out HJZ.out HJS.out HJB.out (by rfl) (by decide) (some ⟨w.heap.size + 1 + 1, 0, none⟩) 0 0 [] rfl (own_new2_ (by simp)) A ks.length c (ks.map sv) rfl (ownsRow_turn HA.out T0.out (fun _ _ h => h)) (one_sv _) (by omega) (by unfold maxLen; omega) (by simp) ?_
               intro A3 c3 w3 ho3 ht3
               simp only [Nat.zero_add, List.nil_append] at ho3
               have O3 := Lib.hid ho3
               have TT : Turn (fun k => k = w.heap.size + 1 + 1) _ w3 := ht3.mono (fun k _ e => by simp [Value.ownBlock] at e; exact e.symm)
               have hb3 := HB0.out.turn TT (by omega)
               have hr3 := HR0.out.turn TT (by omega)
               have T3 := Lib.hid (T0.out.trans_new TT (fun k hk e => by omega))
               have HB3 := Lib.hid hb3
               have HR3 := Lib.hid hr3
               have b1 := hb3.cell 1
               have f1 := hb3.free 1
               simp only [List.getElem?_cons_zero, List.getElem?_cons_succ] at b1
               clear ho3 ht3 TT hb3 hr3)
  clear b1 f1
  go_loopw [5] (fun v wr => ∃ j : Nat, j ≤ ls.length ∧ v = .int .i64 j ∧ wr.ownsRow (w.heap.size + 1 + 1) 9 1 (.slice A3 ks.length c3) ks.length ((setAll ks (ls.take j)).map sv) ∧ Blk wr w.heap.size 32 [.int .i64 N, .slice A3 ks.length c3, .slice B m d, .int .i64 F, .bool dd] ∧ Blk wr (w.heap.size + 1) 32 [.int .i64 0, .slice none 0 0, .slice none 0 0, .int .i64 0, .bool false] ∧ Turn (fun _ => False) w wr) (fun v _ => ls.length - (intOf v).toNat)
  case atStart =>
    refine ⟨0, Nat.zero_le _, rfl, ?_, HB3.out.put 1 _, HR3.out.far (p := ⟨w.heap.size, 1, none⟩) (by simp) _, ?_⟩
    · exact ownsRow_turn O3.out ((Turn.refl (· = w.heap.size) w3).setCell (p := ⟨w.heap.size, 1, none⟩) (.inl rfl) _) (fun k hk e => by have := own_ge_ O3.out k hk; omega)
    · exact T3.out.trans_new ((Turn.refl (· = w.heap.size) w3).setCell (p := ⟨w.heap.size, 1, none⟩) (.inl rfl) _) (fun k hk e => by omega)
  case round =>
    obtain ⟨j, hj, rfl, ho, hb, hr, ht⟩ := hrel
    have HO := Lib.hid ho
    have HB := Lib.hid hb
    have HR := Lib.hid hr
    have HT := Lib.hid ht
    by_cases hlt : j < ls.length
    · obtain ⟨x, hx⟩ : ∃ x, ls[j]? = some x := ⟨_, List.getElem?_eq_getElem hlt⟩
      have hLw := ownsRow_turn HL.out ht (fun _ _ h => h)
      have e0 := flat_at pv 2 ls (fun y _ => rfl) j 0 x hx (by omega)
      have e1 := flat_at pv 2 ls (fun y _ => rfl) j 1 x hx (by omega)
      obtain ⟨g, hg, h0⟩ := own_at_ hLw (k := j * 2 + 0) (u := .int .i64 (x.1 : Int)) (by rw [e0]; rfl)
      obtain ⟨g', hg', h1⟩ := own_at_ hLw (k := j * 2 + 1) (u := sv x.2) (by rw [e1]; rfl)
      rw [hg] at hg'
      injection hg' with hg'
      injection hg' with hg'
      subst hg' hg
      have hxk : x.1 < ks.length := HLS.out x (List.mem_of_getElem? hx)
      obtain ⟨gk, ek, ⟨vv, hcv⟩, hfv, hge, hset⟩ := own_set_ ho (k := x.1) hxk (sv x.2)
      subst ek
      have HN : Hid ((setAll ks (ls.take (j + 1))).map sv = ((setAll ks (ls.take j)).map sv).set x.1 (sv x.2)) := Lib.hid (by rw [take_snoc_ hx, setAll_snoc, List.map_set])
      rw [← HN.out] at hset
      have HS := Lib.hid hset
      have b1 := hb.cell 1
      simp only [List.getElem?_cons_zero, List.getElem?_cons_succ] at b1
      have k0 : (0 : Int) ≤ (x.1 : Int) := Int.natCast_nonneg _
      have k1 : (x.1 : Int) < (ks.length : Int) := by omega
      have j0' : (0 : Int) ≤ (j : Int) := Int.natCast_nonneg _
      have j1 : (j : Int) < (ls.length : Int) := by omega
      rw [Nat.add_zero] at h0
      obtain ⟨y0, y1⟩ := x
      simp only at h0 h1 hcv hfv HS k0 k1 hxk
      clear ho hb hr ht hx hLw e0 e1 hset
      go_wp2
      refine wp_region_still_tail 13 (by kernel_rfl) (by kernel_rfl) ?_
      simp only [List.take_succ_cons, List.take_zero, List.drop_succ_cons, List.drop_zero]
      change wpStill _ _ (World.drew _) _ _ _
      repeat still_step
      refine wpStill_nil ?_
      change wpList _ _ _ _ _ (World.drew _)
      go_wp2
      go_roundw
      case rel =>
        have ts : Turn (· = gk) wr (wr.setCell ⟨gk, y0, none⟩ (sv y1)) := (Turn.refl (· = gk) wr).setCell (p := ⟨gk, y0, none⟩) (.inl rfl) _
        exact ⟨j + 1, by omega, by go_num, ownsRow_turn HS.out ((Turn.refl (fun _ => False) _).drew) (fun _ _ h => h), (HB.out.turn ts (by omega)).drew, (HR.out.turn ts (by omega)).drew, (HT.out.trans_new ts (fun k hk e => by omega)).drew⟩
      case measure => simp [intOf] <;> omega
    · obtain rfl : j = ls.length := by omega
      rw [List.take_length] at HO
      have b0 := hb.cell 0
      have b1 := hb.cell 1
      have b2 := hb.cell 2
      have b3 := hb.cell 3
      have b4 := hb.cell 4
      have f2 := hb.free 2
      have r0 := hr.cell 0
      have r1 := hr.cell 1
      have r2 := hr.cell 2
      have r3 := hr.cell 3
      have r4 := hr.cell 4
      have g0 := hr.free 0
      have g1 := hr.free 1
      have g2 := hr.free 2
      have g3 := hr.free 3
      have g4 := hr.free 4
      simp only [List.getElem?_cons_zero, List.getElem?_cons_succ] at b0 b1 b2 b3 b4 r0 r1 r2 r3 r4
      clear ho hb hr ht hlt
      go_wp2
      have hf := (((((HR.out.far (p := ⟨w.heap.size, 2, none⟩) (by simp) (.slice none 0 0)).put 0 (.int .i64 N)).put 1 (.slice A3 ks.length c3)).put 2 (.slice none 0 0)).put 3 (.int .i64 F)).put 4 (.bool dd)
      have tf := ((((((Turn.refl (fun k => k = w.heap.size ∨ k = w.heap.size + 1) wr).setCell (p := ⟨w.heap.size, 2, none⟩) (.inl (.inl rfl)) (.slice none 0 0)).setCell (p := ⟨w.heap.size + 1, 0, none⟩) (.inl (.inr rfl)) (.int .i64 N)).setCell (p := ⟨w.heap.size + 1, 1, none⟩) (.inl (.inr rfl)) (.slice A3 ks.length c3)).setCell (p := ⟨w.heap.size + 1, 2, none⟩) (.inl (.inr rfl)) (.slice none 0 0)).setCell (p := ⟨w.heap.size + 1, 3, none⟩) (.inl (.inr rfl)) (.int .i64 F)).setCell (p := ⟨w.heap.size + 1, 4, none⟩) (.inl (.inr rfl)) (.bool dd)
      have hown := ownsRow_turn (own_mono_ HO.out (B' := w.heap.size) (by omega)) tf (fun k hk e => by have := own_ge_ HO.out k hk; omega)
      have htt := HT.out.trans_new tf (fun k hk e => by omega)
      have e0 := hf.cell 0
      have e1 := hf.cell 1
      have e2 := hf.cell 2
      have e3 := hf.cell 3
      have e4 := hf.cell 4
      simp only [List.set_cons_zero, List.set_cons_succ, List.getElem?_cons_zero, List.getElem?_cons_succ] at e0 e1 e2 e3 e4
      clear b0 b1 b2 b3 b4 f2 r0 r1 r2 r3 r4 g0 g1 g2 g3 g4 tf hf
      generalize ((((((wr.setCell ⟨w.heap.size, 2, none⟩ (.slice none 0 0)).setCell ⟨w.heap.size + 1, 0, none⟩ (.int .i64 N)).setCell ⟨w.heap.size + 1, 1, none⟩ (.slice A3 ks.length c3)).setCell ⟨w.heap.size + 1, 2, none⟩ (.slice none 0 0)).setCell ⟨w.heap.size + 1, 3, none⟩ (.int .i64 F)).setCell ⟨w.heap.size + 1, 4, none⟩ (.bool dd)) = WF at *
      exact bodyPost_ret (v := .agg #[.int .i64 N, .slice A3 ks.length c3, .slice none 0 0, .int .i64 F, .bool dd]) (by simp [results, Tryd.results53, go_sem, e0, e1, e2, e3, e4]) rfl ⟨A3, c3, rfl, hown, htt⟩
end Go.Proofs.YtmedljnbcpdoeaaDoor
/- Layer 4: the document's disk: Flush. -/
namespace Go.Proofs.YtmedljnbcpdoeaaDoor
open Go.RowKit Go.Maps
set_option linter.unusedVariables false

end Go.Proofs.YtmedljnbcpdoeaaDoor
/- Layer 4: the document's disk: Crash. -/
namespace Go.Proofs.YtmedljnbcpdoeaaDoor
open Go.RowKit Go.Maps
set_option linter.unusedVariables false

theorem own_set2_ {α : Type} {l : List α} {n : Nat} (h : n = l.length) : l.length = n := h.symm
set_option maxRecDepth 100000 in
set_option maxHeartbeats 4000000 in
theorem crashRef_r {w : World} {D : Dsk} {ks : List (List UInt8)} {A B : Option Addr} {c d : Nat} (h : Rm w D ks A c B d) (ok : D.Ok) (hp : D.pend.length ≤ 1000000) (N F : Int) (dd : Bool) (vz : Value) (zs : List Int) (hzl : zs.length ≤ 9223372036854775807) (hk : Iv (fun _ => False) w vz zs) :
    Calls Tryd.prog 24 #[.agg #[.int .i64 N, .slice A ks.length c, .slice B D.pend.length d, .int .i64 F, .bool dd], vz] w fun e w' => ∃ A' c', e = .returned (.agg #[.int .i64 N, .slice A' ks.length c', .slice none 0 0, .int .i64 (-1), .bool false]) ∧ w'.ownsRow w.heap.size 9 1 (.slice A' ks.length c') ks.length ((setAll ks (sel D.pend (isIn zs))).map sv) ∧ Turn (fun _ => False) w w' := by
  have HK : Hid (∀ W L dl (ls : List (Nat × List UInt8)), Turn (fun _ => False) w W → (∀ x ∈ ls, x ∈ D.pend) → ls.length ≤ 1000000 → W.ownsRow 0 93 2 (.slice L ls.length dl) ls.length (ls.flatMap pv) → Calls Tryd.prog 53 #[.agg #[.int .i64 N, .slice A ks.length c, .slice B D.pend.length d, .int .i64 (-1), .bool false], .slice L ls.length dl] W fun e w' => ∃ A' c', e = .returned (.agg #[.int .i64 N, .slice A' ks.length c', .slice none 0 0, .int .i64 (-1), .bool false]) ∧ w'.ownsRow W.heap.size 9 1 (.slice A' ks.length c') ks.length ((setAll ks ls).map sv) ∧ Turn (fun _ => False) W w') :=
    Lib.hid (fun W L dl ls ht hsub hlen ho => kept_r N A B L ks c D.pend.length d dl (-1) false ls (fun x hx => by rw [h.len]; exact (ok.pend x (hsub x hx)).1) (by rw [h.len]; exact ok.pos) (by rw [h.len]; exact ok.most) hlen W (h.still ht).kept ho)
  have H := Lib.hid h
  have HZ := Lib.hid hk
  obtain ⟨Az, cz, hvz, _⟩ := hk
  subst hvz
  have hb := (Blk.new w 32 [.int .i64 N, .slice A ks.length c, .slice B D.pend.length d, .int .i64 F, .bool dd]).alloc (.cells #[.int .i64 0, .slice none 0 0, .slice none 0 0, .int .i64 0, .bool false] 32)
  have hr := Blk.new_ (w.alloc (.cells #[.int .i64 N, .slice A ks.length c, .slice B D.pend.length d, .int .i64 F, .bool dd] 32)) 32 [.int .i64 0, .slice none 0 0, .slice none 0 0, .int .i64 0, .bool false] (k := w.heap.size + 1) (by simp)
  have HB0 := Lib.hid hb
  have HR0 := Lib.hid hr
  have T0 := Lib.hid (((Turn.refl (fun _ => False) w).alloc (.cells #[.int .i64 N, .slice A ks.length c, .slice B D.pend.length d, .int .i64 F, .bool dd] 32)).alloc (.cells #[.int .i64 0, .slice none 0 0, .slice none 0 0, .int .i64 0, .bool false] 32))
  have S0 : Hid (((w.alloc (.cells #[.int .i64 N, .slice A ks.length c, .slice B D.pend.length d, .int .i64 F, .bool dd] 32)).alloc (.cells #[.int .i64 0, .slice none 0 0, .slice none 0 0, .int .i64 0, .bool false] 32)).heap.size = w.heap.size + 1 + 1) := Lib.hid (by simp)
  obtain ⟨j0, hj, hjz, hjs, hjb⟩ := info_parts_ info_rw
  have HJ := Lib.hid hj
  have HJZ := Lib.hid hjz
  have HJS := Lib.hid hjs
  have HJB := Lib.hid hjb
  have hpl : (D.pend.length : Int) ≤ 1000000 := by omega
  have hzi : (zs.length : Int) ≤ 9223372036854775807 := by omega
  clear hj hjz hjs hjb h hb hr
  go_enter Tryd.func24, Tryd.ntmps24
  go_wp2
  obtain ⟨W0, hW0⟩ : ∃ W0, (w.alloc (.cells #[.int .i64 N, .slice A ks.length c, .slice B D.pend.length d, .int .i64 F, .bool dd] 32)).alloc (.cells #[.int .i64 0, .slice none 0 0, .slice none 0 0, .int .i64 0, .bool false] 32) = W0 := ⟨_, rfl⟩
  rw [hW0] at HB0 HR0 T0 S0 ⊢
  clear hW0
  go_loopw [5, 6] (fun vl vk wr => ∃ (j m : Nat) (L : Option Addr) (cL : Nat), j ≤ D.pend.length ∧ vk = .int .i64 j ∧ vl = .slice L m cL ∧ m = (sel (D.pend.take j) (isIn zs)).length ∧ wr.ownsRow (w.heap.size + 1 + 1) 93 2 (.slice L m cL) m ((sel (D.pend.take j) (isIn zs)).flatMap pv) ∧ Turn (fun _ => False) W0 wr) (fun _ vk _ => D.pend.length - (intOf vk).toNat)
  case atStart => exact ⟨0, 0, none, 0, Nat.zero_le _, rfl, rfl, rfl, ⟨rfl, .inl ⟨rfl, rfl⟩⟩, Turn.refl _ _⟩
  case round =>
    obtain ⟨j, m, L, cL, hj, rfl, rfl, hm, ho, ht⟩ := hrel
    have HO := Lib.hid ho
    have HT := Lib.hid ht
    have HM := Lib.hid hm
    have hb := HB0.out.turn ht (fun h => h)
    have b2 := hb.cell 2
    simp only [List.getElem?_cons_zero, List.getElem?_cons_succ] at b2
    by_cases hlt : j < D.pend.length
    · have j1 : (j : Int) < (D.pend.length : Int) := by omega
      have j0' : (0 : Int) ≤ (j : Int) := Int.natCast_nonneg _
      clear hm ho ht hb
      go_wp2
      go_loopw [7, 8] (fun vb vi wq => ∃ i : Nat, i ≤ zs.length ∧ vi = .int .i64 i ∧ vb = .bool (isIn (zs.take i) j) ∧ wq = wr) (fun _ vi _ => zs.length - (intOf vi).toNat)
      case atStart => exact ⟨0, Nat.zero_le _, rfl, rfl, rfl⟩
      case round =>
        obtain ⟨i, hi, rfl, rfl, rfl⟩ := hrel
        by_cases hli : i < zs.length
        · have i1 : (i : Int) < (zs.length : Int) := by omega
          have i0 : (0 : Int) ≤ (i : Int) := Int.natCast_nonneg _
          obtain ⟨z, hz⟩ : ∃ z, zs[i]? = some z := ⟨_, List.getElem?_eq_getElem hli⟩
          have HS : Hid (isIn (zs.take (i + 1)) j = (isIn (zs.take i) j || decide ((j : Int) = z))) := Lib.hid (by rw [take_snoc_ hz, isIn_snoc])
          obtain ⟨A2, cap2, e2, hr⟩ := (HZ.out.turn (T0.out.trans HT.out) (fun _ h => h.elim))
          obtain ⟨b, o, eA, _, _, hcz⟩ := hr (by omega)
          injection e2 with e2 _ _
          rw [eA] at e2
          subst e2
          have hcell := hcz i z hz
          obtain ⟨bb, hbb⟩ : ∃ bb, isIn (zs.take i) j = bb := ⟨_, rfl⟩
          rw [hbb] at HS ⊢
          clear hr hcz eA hz hbb
          cases bb with
          | true =>
            go_wp2
            go_roundw
            case rel => exact ⟨i + 1, by omega, by go_num, by rw [HS.out]; rfl, trivial⟩
            case measure => simp [intOf] <;> omega
          | false =>
            by_cases he : z = (j : Int)
            · have h1 : (z == (j : Int)) = true := by simpa using he
              have hd : decide ((j : Int) = z) = true := by simpa using he.symm
              rw [hd] at HS
              clear hd he
              go_wp2
              go_roundw
              case rel => exact ⟨i + 1, by omega, by go_num, by rw [HS.out]; rfl, trivial⟩
              case measure => simp [intOf] <;> omega
            · have h1 : (z == (j : Int)) = false := by simpa using he
              have hd : decide ((j : Int) = z) = false := by simpa using fun e => he e.symm
              rw [hd] at HS
              clear hd
              go_wp2
              go_roundw
              case rel => exact ⟨i + 1, by omega, by go_num, by rw [HS.out]; rfl, trivial⟩
              case measure => simp [intOf] <;> omega
        · obtain rfl : i = zs.length := by omega
          rw [List.take_length]
          obtain ⟨x, hx⟩ : ∃ x, D.pend[j]? = some x := ⟨_, List.getElem?_eq_getElem hlt⟩
          have HTK : Hid (sel (D.pend.take (j + 1)) (isIn zs) = if isIn zs j then sel (D.pend.take j) (isIn zs) ++ [x] else sel (D.pend.take j) (isIn zs)) := Lib.hid (by
            rw [take_snoc_ hx, sel_snoc, List.length_take, Nat.min_eq_left (by omega)])
          obtain ⟨gB, eB, hc0, hc1⟩ := ((H.out.still T0.out).still HT.out).pend_at hx
          have HSL : Hid (m ≤ j) := Lib.hid (by
            rw [HM.out]
            unfold sel
            rw [List.length_map]
            refine Nat.le_trans (List.length_filter_le _ _) ?_
            rw [List.length_zipIdx, List.length_take]
            exact Nat.min_le_left _ _)
          have hmj := HSL.out
          obtain ⟨bb, hbb⟩ : ∃ bb, isIn zs j = bb := ⟨_, rfl⟩
          rw [hbb] at HTK ⊢
          subst eB
          clear hx hbb hli
          cases bb with
          | false =>
            clear hc0 hc1
            go_wp2
            go_roundw
            case rel => exact ⟨j + 1, m, L, cL, by omega, by go_num, rfl, by rw [HTK.out]; exact HM.out, by rw [HTK.out]; exact HO.out, HT.out⟩
            case measure => simp [intOf] <;> omega
          | true =>
            obtain ⟨x0, x1⟩ := x
            simp only at hc0 hc1
            have hsz := HT.out.size
            have hs0 := S0.out
            go_wp2_with (at_builtin; refine wpList_app_row rfl _ _ 30 rfl (w.heap.size + 1 + 1) 93 j0 _ 2 24 Tryd.underlying30 HJ.out HJZ.out HJS.out HJB.out (by rfl) (by decide) L m cL ((sel (D.pend.take j) (isIn zs)).flatMap pv) rfl (ownsRow_turn HO.out ((Turn.refl (fun _ => False) _).alloc _) (fun _ _ h => h)) (some ⟨wr.heap.size, 0, none⟩) 1 1 (pv (x0, x1)) rfl (own_full_ (Blk.new wr 93 (pv (x0, x1))) rfl (by decide)) (one_pv _) (by omega) (by unfold maxLen; omega) (by simp; omega) ?_
                         intro A6 c6 w6 ho6 ht6
                         have O6 := Lib.hid ho6
                         have TT := Lib.hid ((HT.out.alloc (.cells #[.int .i64 x0, sv x1] 93)).trans_new ht6 (fun k hk e => by have := own_ge_ HO.out _ e; omega))
                         clear ho6 ht6)
            go_roundw
            case rel => exact ⟨j + 1, m + 1, A6, c6, by omega, by go_num, rfl, by rw [HTK.out, if_pos rfl, List.length_append, ← HM.out]; rfl, by rw [HTK.out, if_pos rfl, List.flatMap_append]; simpa using O6.out, TT.out⟩
            case measure => simp [intOf] <;> omega
    · obtain rfl : j = D.pend.length := by omega
      have HR := Lib.hid (HR0.out.turn ht (fun h => h))
      have HB := Lib.hid hb
      have HMM : Hid (m = (sel D.pend (isIn zs)).length) := Lib.hid (by rw [hm, List.take_length])
      have HOO : Hid (wr.ownsRow (w.heap.size + 1 + 1) 93 2 (.slice L m cL) m ((sel D.pend (isIn zs)).flatMap pv)) := Lib.hid (by rw [List.take_length] at ho; exact ho)
      have HSL : Hid (m ≤ D.pend.length) := Lib.hid (by
        rw [HMM.out]
        unfold sel
        rw [List.length_map]
        refine Nat.le_trans (List.length_filter_le _ _) ?_
        rw [List.length_zipIdx]
        exact Nat.le_refl _)
      have b0 := hb.cell 0
      have b1 := hb.cell 1
      have b3 := hb.cell 3
      have b4 := hb.cell 4
      have f3 := hb.free 3
      have f4 := hb.free 4
      simp only [List.getElem?_cons_zero, List.getElem?_cons_succ] at b0 b1 b3 b4
      have tb : Turn (· = w.heap.size) wr ((wr.setCell ⟨w.heap.size, 3, none⟩ (.int .i64 (-1))).setCell ⟨w.heap.size, 4, none⟩ (.bool false)) := ((Turn.refl (· = w.heap.size) wr).setCell (p := ⟨w.heap.size, 3, none⟩) (.inl rfl) _).setCell (p := ⟨w.heap.size, 4, none⟩) (.inl rfl) _
      have TB := Lib.hid tb
      have T5 := Lib.hid ((T0.out.trans HT.out).trans_new tb (fun k hk e => by omega))
      have O5 := Lib.hid (ownsRow_turn HOO.out tb (fun k hk e => by have := own_ge_ HOO.out k hk; omega))
      have HR5 := Lib.hid (HR.out.turn tb (by omega))
      have HKK := Lib.hid (HK.out _ L cL (sel D.pend (isIn zs)) T5.out (fun x hx => sel_mem hx) (by rw [← HMM.out]; have := HSL.out; omega) (by rw [← HMM.out]; exact own_zero_ O5.out))
      rw [← HMM.out] at HKK
      clear hm ho ht hb hlt tb
      go_wp2_with (go_at_call 53
                   refine HKK.out.mono ?_
                   rintro e w6 ⟨A6, c6, rfl, ho6, ht6⟩
                   have O6 := Lib.hid ho6
                   have hr6 := HR5.out.turn ht6 (fun h => h)
                   have HR6 := Lib.hid hr6
                   have r0 := hr6.cell 0
                   have r1 := hr6.cell 1
                   have r2 := hr6.cell 2
                   have r3 := hr6.cell 3
                   have r4 := hr6.cell 4
                   have g0 := hr6.free 0
                   have g1 := hr6.free 1
                   have g2 := hr6.free 2
                   have g3 := hr6.free 3
                   have g4 := hr6.free 4
                   simp only [List.getElem?_cons_zero, List.getElem?_cons_succ] at r0 r1 r2 r3 r4
                   have TW := Lib.hid (T5.out.trans ht6)
                   have Z2 := HR5.out.lt
                   clear ho6 ht6 hr6 b0 b1 b2 b3 b4 f3 f4)
      have hf := ((((HR6.out.put 0 (.int .i64 N)).put 1 (.slice A6 ks.length c6)).put 2 (.slice none 0 0)).put 3 (.int .i64 (-1))).put 4 (.bool false)
      have tf := (((((Turn.refl (fun k => k = w.heap.size + 1) w6).setCell (p := ⟨w.heap.size + 1, 0, none⟩) (.inl rfl) (.int .i64 N)).setCell (p := ⟨w.heap.size + 1, 1, none⟩) (.inl rfl) (.slice A6 ks.length c6)).setCell (p := ⟨w.heap.size + 1, 2, none⟩) (.inl rfl) (.slice none 0 0)).setCell (p := ⟨w.heap.size + 1, 3, none⟩) (.inl rfl) (.int .i64 (-1))).setCell (p := ⟨w.heap.size + 1, 4, none⟩) (.inl rfl) (.bool false)
      have hown := ownsRow_turn (own_mono_ O6.out (B' := w.heap.size) (by omega)) tf (fun k hk e => by have := own_ge_ O6.out k hk; omega)
      have htt := TW.out.trans_new tf (fun k hk e => by omega)
      have e0 := hf.cell 0
      have e1 := hf.cell 1
      have e2 := hf.cell 2
      have e3 := hf.cell 3
      have e4 := hf.cell 4
      simp only [List.set_cons_zero, List.set_cons_succ, List.getElem?_cons_zero, List.getElem?_cons_succ] at e0 e1 e2 e3 e4
      clear r0 r1 r2 r3 r4 g0 g1 g2 g3 g4 tf hf
      generalize (((((w6.setCell ⟨w.heap.size + 1, 0, none⟩ (.int .i64 N)).setCell ⟨w.heap.size + 1, 1, none⟩ (.slice A6 ks.length c6)).setCell ⟨w.heap.size + 1, 2, none⟩ (.slice none 0 0)).setCell ⟨w.heap.size + 1, 3, none⟩ (.int .i64 (-1))).setCell ⟨w.heap.size + 1, 4, none⟩ (.bool false)) = WF at *
      exact bodyPost_ret (v := .agg #[.int .i64 N, .slice A6 ks.length c6, .slice none 0 0, .int .i64 (-1), .bool false]) (by simp [results, Tryd.results24, go_sem, e0, e1, e2, e3, e4]) rfl ⟨A6, c6, rfl, hown, htt⟩
end Go.Proofs.YtmedljnbcpdoeaaDoor
/- Layer 4: the document's disk: its calls as the plain steps, beside a disk of the program. -/
namespace Go.Proofs.YtmedljnbcpdoeaaDoor
open Go.RowKit Go.Maps
set_option linter.unusedVariables false

/-- The document's disk as a value. -/
@[go_sem] def rd (D : Dsk) (ks : List (List UInt8)) (A : Option Addr) (c : Nat) (B : Option Addr) (d : Nat) : Value := .agg #[.int .i64 (D.kept.length : Int), .slice A ks.length c, .slice B D.pend.length d, .int .i64 D.fuse, .bool D.dead]
/-- It lies in no block of S. -/
structure Rg (S : Nat → Prop) (w : World) (D : Dsk) (ks : List (List UInt8)) (A : Option Addr) (c : Nat) (B : Option Addr) (d : Nat) : Prop where
  m : Rm w D ks A c B d
  k : ∀ b, (Value.slice A ks.length c).ownBlock = some b → ¬ S b
  p : ∀ b, (Value.slice B D.pend.length d).ownBlock = some b → ¬ S b
section
variable {S : Nat → Prop} {w : World} {D : Dsk} {ks : List (List UInt8)} {A B : Option Addr} {c d : Nat}
theorem Rg.still {w' : World} (h : Rg S w D ks A c B d) (ht : Turn (fun _ => False) w w') : Rg S w' D ks A c B d := ⟨h.m.still ht, h.k, h.p⟩
theorem Rg.stp {S' : Nat → Prop} {w' : World} (h : Rg S w D ks A c B d) (hs : Stp S w S' w') : Rg S' w' D ks A c B d :=
  ⟨⟨ownsRow_turn h.m.kept hs.1 h.k, ownsRow_turn h.m.pend hs.1 h.p, h.m.full, h.m.most⟩,
    fun b hb h' => by rcases hs.2 b h' with h1 | h1; exact h.k b hb h1; have := own_lt_ h.m.kept b hb; omega,
    fun b hb h' => by rcases hs.2 b h' with h1 | h1; exact h.p b hb h1; have := own_lt_ h.m.pend b hb; omega⟩
/-- New rows lie in no elder block. -/
theorem far_new {w' : World} {t s n : Nat} {v : Value} {xs : List Value} (hS : ∀ k, S k → k < w.heap.size) (h : w'.ownsRow w.heap.size t s v n xs) : ∀ b, v.ownBlock = some b → ¬ S b := fun b hb hs => by
  have h1 := own_ge_ h b hb
  have h2 := hS b hs
  omega
theorem write_rg (hS : ∀ k, S k → k < w.heap.size) (h : Rg S w D ks A c B d) (ok : D.Ok) (hp : D.pend.length ≤ 1000000) (i : Int) (s : ByteArray) :
    Calls Tryd.prog 61 #[rd D ks A c B d, .int .i64 i, .string s] w fun e w' => ∃ B' d', e = .returned (.tuple #[rd (D.write i s.data.toList).1 ks A c B' d', .int .i64 (D.write i s.data.toList).2]) ∧ Rg S w' (D.write i s.data.toList).1 ks A c B' d' ∧ Turn (fun _ => False) w w' := by
  have hls : s.data.toList.length = s.size := Array.length_toList
  have hfz := ok.fuse
  unfold Dsk.write rd
  by_cases hd : D.dead = true
  · rw [if_pos hd, hd]
    refine (writeRef_err _ A B ks.length c D.pend.length d D.fuse true i s (.inl rfl) w).mono ?_
    rintro e w' ⟨rfl, ht⟩
    exact ⟨B, d, by simp [hd], h.still ht, ht⟩
  · have hd' : D.dead = false := by simpa using hd
    rw [if_neg hd, hd']
    by_cases hb : i < 0 ∨ (D.kept.length : Int) ≤ i
    · rw [if_pos hb]
      refine (writeRef_err _ A B ks.length c D.pend.length d D.fuse false i s (by rcases hb with h | h; exact .inr (.inl h); exact .inr (.inr (.inl h))) w).mono ?_
      rintro e w' ⟨rfl, ht⟩
      exact ⟨B, d, by simp [hd', hb], h.still ht, ht⟩
    · rw [if_neg hb]
      by_cases hl : 128 < s.data.toList.length
      · rw [if_pos hl]
        refine (writeRef_err _ A B ks.length c D.pend.length d D.fuse false i s (.inr (.inr (.inr (by omega)))) w).mono ?_
        rintro e w' ⟨rfl, ht⟩
        exact ⟨B, d, by simp [hd', hb], h.still ht, ht⟩
      · rw [if_neg hl]
        obtain ⟨i, rfl⟩ : ∃ n : Nat, i = n := ⟨i.toNat, by omega⟩
        by_cases hf : D.fuse = 0
        · rw [if_pos hf, hf]
          refine (writeRef_off _ A B ks.length c D.pend.length d i (by omega) (by omega) s (by omega) w).mono ?_
          rintro e w' ⟨rfl, ht⟩
          refine ⟨B, d, ?_, ?_, ht⟩
          · simp [Dsk.burnt, hf]
          · have hx := h.still ht
            unfold Dsk.burnt
            rw [if_pos hf]
            exact ⟨⟨hx.m.kept, hx.m.pend, hx.m.full, hx.m.most⟩, hx.k, hx.p⟩
        · rw [if_neg hf, Int.toNat_natCast]
          refine (writeRef_r h.m i (by omega) hp D.fuse (by omega) hf s (by omega)).mono ?_
          rintro e w' ⟨B', d', rfl, ho, ht⟩
          have e1 : (D.wrote i s.data.toList).kept = D.kept := by simp [Dsk.wrote, (burnt_kept D).1]
          have e2 : (D.wrote i s.data.toList).pend = D.pend ++ [(i, full s.data.toList)] := rfl
          have e3 : (D.wrote i s.data.toList).fuse = if 0 < D.fuse then D.fuse - 1 else D.fuse := by
            simp only [Dsk.wrote, Dsk.burnt, if_neg hf]; split <;> rfl
          have e4 : (D.wrote i s.data.toList).dead = false := by
            simp only [Dsk.wrote, Dsk.burnt, if_neg hf]; split <;> exact hd'
          have e5 : (D.wrote i s.data.toList).pend.length = D.pend.length + 1 := by rw [e2]; simp
          refine ⟨B', d', by rw [e1, e3, e4, e5], ⟨⟨(h.still ht).m.kept, ?_, by rw [e1]; exact h.m.full, h.m.most⟩, h.k, ?_⟩, ht⟩
          · rw [e5, e2]; exact own_zero_ ho
          · rw [e5]; exact far_new hS ho
theorem arm_rg (h : Rg S w D ks A c B d) (k : Int) :
    Calls Tryd.prog 22 #[rd D ks A c B d, .int .i64 k] w fun e w' => e = .returned (.tuple #[rd (D.arm k).1 ks A c B d, .int .i64 (D.arm k).2]) ∧ Rg S w' (D.arm k).1 ks A c B d ∧ Turn (fun _ => False) w w' := by
  unfold rd
  refine (arm_r _ A B ks.length c D.pend.length d D.fuse D.dead k w).mono ?_
  rintro e w' ⟨rfl, ht⟩
  have hx := h.still ht
  unfold Dsk.arm
  by_cases hd : D.dead = true
  · rw [if_pos hd, if_pos hd, if_pos hd]
    exact ⟨rfl, hx, ht⟩
  · rw [if_neg hd, if_neg hd, if_neg hd]
    exact ⟨rfl, ⟨⟨hx.m.kept, hx.m.pend, hx.m.full, hx.m.most⟩, hx.k, hx.p⟩, ht⟩
theorem crash_rg (hS : ∀ k, S k → k < w.heap.size) (h : Rg S w D ks A c B d) (ok : D.Ok) (hp : D.pend.length ≤ 1000000) (vz : Value) (zs : List Int) (hzl : zs.length ≤ 9223372036854775807) (hk : Iv (fun _ => False) w vz zs) :
    Calls Tryd.prog 24 #[rd D ks A c B d, vz] w fun e w' => ∃ ks' A' c' B' d', e = .returned (rd (D.crashed zs) ks' A' c' B' d') ∧ Rg S w' (D.crashed zs) ks' A' c' B' d' ∧ Turn (fun _ => False) w w' := by
  unfold rd
  refine (crashRef_r h.m ok hp _ D.fuse D.dead vz zs hzl hk).mono ?_
  rintro e w' ⟨A', c', rfl, ho, ht⟩
  have hs := keepAll_same (sel D.pend (isIn zs)) D
  have e1 : (D.crashed zs).kept.length = D.kept.length := by rw [show (D.crashed zs).kept = (D.keepAll (sel D.pend (isIn zs))).kept from rfl, hs.2.2.2]
  have e5 : (setAll ks (sel D.pend (isIn zs))).length = ks.length := setAll_len _ _
  refine ⟨setAll ks (sel D.pend (isIn zs)), A', c', none, 0, by rw [e1, e5]; rfl, ⟨⟨by rw [e5]; exact own_zero_ ho, ⟨rfl, .inl ⟨rfl, rfl⟩⟩, ?_, ?_⟩, by rw [e5]; exact far_new hS ho, fun b hb => by simp [Value.ownBlock] at hb⟩, ht⟩
  · exact setAll_full _ ks D (fun x hx => (ok.pend x (sel_mem hx)).2) h.m.full
  · exact setAll_most _ ks (fun x hx => by rw [(ok.pend x (sel_mem hx)).2]; exact Nat.le_refl _) h.m.most
end
end Go.Proofs.YtmedljnbcpdoeaaDoor
