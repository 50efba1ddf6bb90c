/- Words of this folder's own on memory: a block known whole, a row of bytes of the call's own, bytes that are read, what a call has turned. -/
import Derived.WalkKit
import Derived.Lib.Hide
import Derived.Deep.Draws
import Derived.Laws.CopyOwn
namespace Go.Proofs.Ytjkfgbmlhglnfaa
open Go.RowKit

def u8v (c : UInt8) : Value := .int .u8 (c.toNat : Int)
def bv (l : List UInt8) : List Value := l.map u8v

theorem len_bv (l : List UInt8) : (bv l).length = l.length := by simp [bv]
theorem bv_app (l m : List UInt8) : bv (l ++ m) = bv l ++ bv m := by simp [bv]
theorem bv_at (l : List UInt8) (j : Nat) : (bv l)[j]? = l[j]?.map u8v := by simp [bv]

/-- Block g is just these cells, none of them frozen. -/
def Blk (w : World) (g : Nat) (t : TypeId) (cs : List Value) : Prop := w.heap[g]? = some (.cells cs.toArray t (0, 0))

/-- Nothing but the blocks of S has turned, of those that stood. -/
structure Turn (S : Nat → Prop) (w w' : World) : Prop where
  os : w'.os = w.os
  tape : w'.tape = w.tape
  output : w'.output = w.output
  size : w.heap.size ≤ w'.heap.size
  block : ∀ k, k < w.heap.size → ¬ S k → w'.heap[k]? = w.heap[k]?

section
variable {w w' w'' : World} {g t : Nat} {cs : List Value} {S T : Nat → Prop}
theorem Blk.lt (h : Blk w g t cs) : g < w.heap.size := by
  rcases Nat.lt_or_ge g w.heap.size with hlt | hge
  · exact hlt
  · unfold Blk at h; rw [Array.getElem?_eq_none hge] at h; cases h
theorem Blk.cell (h : Blk w g t cs) (i : Nat) : w.cell? ⟨g, i, none⟩ = cs[i]? := by
  unfold Blk at h; simp [World.cell?, h]
theorem Blk.free (h : Blk w g t cs) (i : Nat) : w.frozen? ⟨g, i, none⟩ = false := by
  unfold Blk at h; simp [World.frozen?, h]
theorem Blk.new (w : World) (t : TypeId) (cs : List Value) : Blk (w.alloc (.cells cs.toArray t)) w.heap.size t cs := heap_alloc_new w _
theorem size_drewN (w : World) (n : Nat) : (w.drewN n).heap.size = w.heap.size := rfl
theorem Blk.new_ (w : World) (t : TypeId) (cs : List Value) {k : Nat} (hk : w.heap.size = k) : Blk (w.alloc (.cells cs.toArray t)) k t cs := hk ▸ Blk.new w t cs
theorem Blk.drew (h : Blk w g t cs) : Blk w.drew g t cs := h
theorem Blk.drewN (h : Blk w g t cs) (n : Nat) : Blk (w.drewN n) g t cs := h
theorem Blk.alloc (h : Blk w g t cs) (o : Obj) : Blk (w.alloc o) g t cs := (Below.heap_alloc w o g h.lt).trans h
theorem Blk.put (h : Blk w g t cs) (i : Nat) (u : Value) : Blk (w.setCell ⟨g, i, none⟩ u) g t (cs.set i u) := by
  unfold Blk at h ⊢
  simp [World.setCell, Array.getElem?_modify, h]
theorem Blk.far (h : Blk w g t cs) {p : Addr} (hp : g ≠ p.block) (u : Value) : Blk (w.setCell p u) g t cs := (Below.heap_setCell w p u g hp).trans h
theorem Blk.below {B : Nat} (h : Blk w g t cs) (hb : Below B w w') (hg : g < B) : Blk w' g t cs := (hb.block g hg).trans h
theorem Blk.turn (h : Blk w g t cs) (hb : Turn S w w') (hg : ¬ S g) : Blk w' g t cs := (hb.block g h.lt hg).trans h
theorem Blk.same {t' : Nat} {cs' : List Value} (h : Blk w g t cs) (h' : Blk w g t' cs') : t = t' ∧ cs = cs' := by
  unfold Blk at h h'
  rw [h] at h'
  injection h' with h'
  injection h' with h1 h2
  exact ⟨h2, by simpa using h1⟩

theorem Turn.refl (S : Nat → Prop) (w : World) : Turn S w w := ⟨rfl, rfl, rfl, Nat.le_refl _, fun _ _ _ => rfl⟩
theorem Turn.trans (h : Turn S w w') (k : Turn S w' w'') : Turn S w w'' :=
  ⟨k.os.trans h.os, k.tape.trans h.tape, k.output.trans h.output, Nat.le_trans h.size k.size, fun i hi hs => (k.block i (Nat.lt_of_lt_of_le hi h.size) hs).trans (h.block i hi hs)⟩
/-- A second step that turns, besides, only blocks that the first one has made. -/
theorem Turn.trans_new (h : Turn S w w') (k : Turn T w' w'') (ht : ∀ k, k < w.heap.size → T k → S k) : Turn S w w'' :=
  ⟨k.os.trans h.os, k.tape.trans h.tape, k.output.trans h.output, Nat.le_trans h.size k.size, fun i hi hs => (k.block i (Nat.lt_of_lt_of_le hi h.size) fun hT => hs (ht i hi hT)).trans (h.block i hi hs)⟩
theorem Turn.mono (h : Turn S w w') (hs : ∀ k, k < w.heap.size → S k → T k) : Turn T w w' :=
  ⟨h.os, h.tape, h.output, h.size, fun k hk ht => h.block k hk fun hk' => ht (hs k hk hk')⟩
theorem Turn.drew (h : Turn S w w') : Turn S w w'.drew := ⟨h.os, h.tape, h.output, h.size, h.block⟩
theorem Turn.drewN (h : Turn S w w') (n : Nat) : Turn S w (w'.drewN n) := ⟨h.os, h.tape, h.output, h.size, h.block⟩
theorem Turn.alloc (h : Turn S w w') (o : Obj) : Turn S w (w'.alloc o) :=
  h.trans ⟨rfl, rfl, rfl, by simp, fun k hk _ => Below.heap_alloc _ _ _ hk⟩
theorem Turn.setCell (h : Turn S w w') {p : Addr} (hp : S p.block ∨ w.heap.size ≤ p.block) (u : Value) : Turn S w (w'.setCell p u) := by
  refine ⟨h.os, h.tape, h.output, by simpa [World.setCell] using h.size, fun k hk hs => ?_⟩
  rw [Below.heap_setCell _ _ _ _ (fun e => by subst e; rcases hp with hp | hp; exact hs hp; omega)]
  exact h.block k hk hs
theorem Turn.below {B : Nat} (h : Turn S w w') (hB : B ≤ w.heap.size) (hs : ∀ k, S k → B ≤ k) : Below B w w' :=
  ⟨h.os, h.tape, h.output, h.size, fun k hk => h.block k (by omega) fun hk' => by have := hs k hk'; omega⟩
theorem Turn.of_below {B : Nat} (h : Below B w w') (hs : ∀ k, k < w.heap.size → B ≤ k → S k) : Turn S w w' :=
  ⟨h.os, h.tape, h.output, h.size, fun k hk hn => h.block k (by rcases Nat.lt_or_ge k B with h1 | h1; exact h1; exact absurd (hs k hk h1) hn)⟩
theorem bdrewN {B n : Nat} (h : Below B w w') : Below B w (w'.drewN n) := ⟨h.os, h.tape, h.output, h.size, h.block⟩
end

theorem cell_lt {w : World} {a : Addr} {v : Value} (h : w.cell? a = some v) : a.block < w.heap.size := by
  rcases Nat.lt_or_ge a.block w.heap.size with hlt | hge
  · exact hlt
  · unfold World.cell? at h; rw [Array.getElem?_eq_none hge] at h; cases h
theorem block_add (a : Addr) (n : Nat) : (a.add n).block = a.block := by unfold Addr.add; split <;> rfl
theorem add_add (a : Addr) (i j : Nat) : (a.add i).add j = a.add (i + j) := by
  unfold Addr.add
  by_cases hi : i = 0 <;> by_cases hj : j = 0 <;> simp [hi, hj, Nat.add_assoc]

/-- A row of the call's own: block g has cap cells, the first of them these bytes. -/
def Row (w : World) (t : TypeId) (g cap : Nat) (l : List UInt8) : Prop := ∃ r : List Value, Blk w g t (bv l ++ r) ∧ l.length + r.length = cap

/-- The n elements at A, which lies below block B, read as these bytes. -/
def Rd (w : World) (B : Nat) (A : Option Addr) (l : List UInt8) : Prop :=
  0 < l.length → ∃ ad : Addr, A = some ad ∧ ad.spot = none ∧ ad.block < B ∧ ∀ j c, l[j]? = some c → w.cell? (ad.add j) = some (u8v c)

section
variable {w w' : World} {t g cap B B' : Nat} {l : List UInt8} {A : Option Addr} {S : Nat → Prop}
theorem Row.lt (h : Row w t g cap l) : g < w.heap.size := by obtain ⟨r, h, _⟩ := h; exact h.lt
theorem Row.le (h : Row w t g cap l) : l.length ≤ cap := by obtain ⟨r, _, h⟩ := h; omega
theorem Row.drew (h : Row w t g cap l) : Row w.drew t g cap l := h
theorem Row.alloc (h : Row w t g cap l) (o : Obj) : Row (w.alloc o) t g cap l := by obtain ⟨r, h, e⟩ := h; exact ⟨r, h.alloc o, e⟩
theorem Row.far (h : Row w t g cap l) {p : Addr} (hp : g ≠ p.block) (u : Value) : Row (w.setCell p u) t g cap l := by obtain ⟨r, h, e⟩ := h; exact ⟨r, h.far hp u, e⟩
theorem Row.below (h : Row w t g cap l) (hb : Below B w w') (hg : g < B) : Row w' t g cap l := by obtain ⟨r, h, e⟩ := h; exact ⟨r, h.below hb hg, e⟩
theorem Row.turn (h : Row w t g cap l) (hb : Turn S w w') (hg : ¬ S g) : Row w' t g cap l := by obtain ⟨r, h, e⟩ := h; exact ⟨r, h.turn hb hg, e⟩
theorem Row.cell (h : Row w t g cap l) {j : Nat} {c : UInt8} (hc : l[j]? = some c) : w.cell? ⟨g, j, none⟩ = some (u8v c) := by
  obtain ⟨r, h, _⟩ := h
  have hj : j < l.length := by
    rcases Nat.lt_or_ge j l.length with h | h
    · exact h
    · rw [List.getElem?_eq_none h] at hc; cases hc
  rw [h.cell, List.getElem?_append_left (by rw [len_bv]; exact hj), bv_at, hc]; rfl
theorem Row.spare (h : Row w t g cap l) (hl : l.length < cap) : ∃ u, w.cell? ⟨g, l.length, none⟩ = some u := by
  obtain ⟨r, h, e⟩ := h
  rw [h.cell, List.getElem?_append_right (by rw [len_bv]; exact Nat.le_refl _), len_bv, Nat.sub_self]
  match r, e with
  | u :: _, _ => exact ⟨u, rfl⟩
  | [], e => simp at e; omega
theorem Row.free (h : Row w t g cap l) (i : Nat) : w.frozen? ⟨g, i, none⟩ = false := by obtain ⟨r, h, _⟩ := h; exact h.free i
theorem Row.push (h : Row w t g cap l) (hl : l.length < cap) (c : UInt8) : Row (w.setCell ⟨g, l.length, none⟩ (u8v c)) t g cap (l ++ [c]) := by
  obtain ⟨r, h, e⟩ := h
  match r, e with
  | u :: r, e =>
    refine ⟨r, ?_, by simp at e ⊢; omega⟩
    have := h.put l.length (u8v c)
    rw [List.set_append_right _ _ (by rw [len_bv]; exact Nat.le_refl _), len_bv, Nat.sub_self] at this
    simpa [bv] using this
  | [], e => simp at e; omega
theorem Rd.of_row (h : Row w t g cap l) (hB : g < B) : Rd w B (some ⟨g, 0, none⟩) l := fun _ =>
  ⟨_, rfl, rfl, hB, fun j c hc => by
    have : (⟨g, 0, none⟩ : Addr).add j = ⟨g, j, none⟩ := by unfold Addr.add; split <;> simp_all
    rw [this]; exact h.cell hc⟩
theorem Rd.keep (h : Rd w B A l) (hk : ∀ p : Addr, p.block < B → w'.cell? p = w.cell? p) : Rd w' B A l := fun hn => by
  obtain ⟨ad, e, hs, hb, hc⟩ := h hn
  exact ⟨ad, e, hs, hb, fun j c hj => (hk _ (by rw [block_add]; exact hb)).trans (hc j c hj)⟩
theorem Rd.more (h : Rd w B A l) (hB : B ≤ B') : Rd w B' A l := fun hn => by
  obtain ⟨ad, e, hs, hb, hc⟩ := h hn
  exact ⟨ad, e, hs, by omega, hc⟩
theorem Rd.below (h : Rd w B A l) (hb : Below B w w') : Rd w' B A l := h.keep fun _ hp => hb.cell hp
theorem Rd.turn (h : Rd w B A l) (hb : Turn S w w') (hB : B ≤ w.heap.size) (hs : ∀ k, k < B → ¬ S k) : Rd w' B A l :=
  h.keep fun p hp => World.cell?_of_block (w := w) (hb.block p.block (by omega) (hs _ hp))
theorem Rd.nil (w : World) (B : Nat) (A : Option Addr) : Rd w B A [] := fun h => absurd h (by simp)
end

/-- The field of k bytes of a number, the highest byte first. -/
def fbyte (k : Nat) (n : Int) (i : Nat) : UInt8 := UInt8.ofNat (n / 2 ^ (8 * (k - 1 - i)) % 256).toNat
def fldTo (k : Nat) (n : Int) (i : Nat) : List UInt8 := (List.range i).map (fbyte k n)
def fld (k : Nat) (n : Int) : List UInt8 := fldTo k n k
theorem fldTo_succ (k : Nat) (n : Int) (i : Nat) : fldTo k n (i + 1) = fldTo k n i ++ [fbyte k n i] := by simp [fldTo, List.range_succ]
theorem len_fldTo (k : Nat) (n : Int) (i : Nat) : (fldTo k n i).length = i := by simp [fldTo]
theorem len_fld (k : Nat) (n : Int) : (fld k n).length = k := len_fldTo k n k
theorem u8v_fbyte (k : Nat) (n : Int) (i : Nat) : u8v (fbyte k n i) = .int .u8 (n / 2 ^ (8 * (k - 1 - i)) % 256) := by
  unfold u8v fbyte
  have h0 : 0 ≤ n / 2 ^ (8 * (k - 1 - i)) % 256 := Int.emod_nonneg _ (by decide)
  have h1 : n / 2 ^ (8 * (k - 1 - i)) % 256 < 256 := Int.emod_lt_of_pos _ (by decide)
  congr 1
  rw [UInt8.toNat_ofNat']
  omega
/-- copy of all of l to the head of a row of the call's own, which has as many elements. -/
theorem wpList_copy_all {P : Program} {w : World} {ops : Array Oper} {rest : List Oper} {o : Oper} {a : Act} {Q : Exit → Act → World → Prop} (hgd : o.guard = none) (d s : Operand) (dT : TypeId)
    (ho : o.op = .call { callee := .builtin .copy, args := #[d, s], argTypes := #[dT, dT] }) (elem : TypeId) (hu : P.underlying dT = some (.slice elem)) (hsz : (P.info? elem).map (·.size) = some 1)
    (l : List UInt8) (g dCap : Nat) (A : Option Addr) (sCap B : Nat) (hd : a.eval d = .slice (some ⟨g, 0, none⟩) l.length dCap) (hs : a.eval s = .slice A l.length sCap) (hA : Rd w B A l)
    (cur : List Value) (t : TypeId) (hg : Blk w g t cur) (hfit : l.length ≤ cur.length)
    (h : ∀ w', Hid (Blk w' g t (bv l ++ cur.drop l.length)) → Turn (· = g) w w' → wpList P ops Q rest (a.put o.dst (goInt l.length)) w') :
    wpList P ops Q (o :: rest) a w := by
  by_cases h0 : l.length = 0
  · obtain rfl : l = [] := List.eq_nil_of_length_eq_zero h0
    refine wpList_copy_nothing hgd d s dT dT ho elem hu hsz _ _ _ _ _ _ hd hs (by simp) ?_
    exact h w (show Blk _ _ _ _ by simpa [bv] using hg) (Turn.refl _ _)
  · obtain ⟨ad, rfl, hsp, hb, hc⟩ := hA (by omega)
    refine wpList_copy_own hgd d s dT dT ho elem hu hsz g 0 l.length dCap ad l.length sCap hd hs cur.toArray t hg (bv l) (by simp [len_bv]) (fun j v hv => ?_) (by simpa [len_bv] using hfit) (fun v hv => ?_) ?_
    · rw [bv_at] at hv
      cases hj : l[j]? with
      | none => rw [hj] at hv; cases hv
      | some c => rw [hj] at hv; cases hv; exact hc j c hj
    · obtain ⟨c, _, rfl⟩ := List.mem_map.1 hv; rfl
    · rw [len_bv]
      refine h _ (show _ = _ from ?_) ⟨rfl, rfl, rfl, by simp [World.setRow], fun k hk hne => setRow_other w g k _ (fun e => hne (by omega))⟩
      have := setRow_heap w g cur.toArray (bv l ++ cur.drop l.length).toArray t (0, 0) hg
      simpa using this

theorem madeCells_one (u : Value) (n : Nat) : madeCells #[u] n = (List.replicate n u).toArray := by
  unfold madeCells
  apply Array.ext
  · simp
  · intro i h1 h2; simp [Nat.mod_one]
/-- A row of the call's own, as the append laws ask for it. -/
theorem Row.own {w : World} {t g cap B : Nat} {l : List UInt8} (h : Row w t g cap l) (hB : B ≤ g) (hc : cap ≤ maxLen) : w.ownsRow B t 1 (.slice (some ⟨g, 0, none⟩) l.length cap) l.length (bv l) := by
  have hle := h.le
  obtain ⟨r, h, e⟩ := h
  refine ⟨by simp [len_bv], .inr ⟨g, cap, _, rfl, hB, h, hle, hc, by simp [len_bv]; omega, ?_⟩⟩
  simp [← len_bv l]
theorem row_of_own {w : World} {t B : Nat} {l : List UInt8} {v : Value} (h : w.ownsRow B t 1 v l.length (bv l)) :
    (v = .slice none 0 0 ∧ l = []) ∨ ∃ g cap, v = .slice (some ⟨g, 0, none⟩) l.length cap ∧ B ≤ g ∧ Row w t g cap l ∧ cap ≤ maxLen := by
  obtain ⟨_, ⟨hv, h0⟩ | ⟨g, cap, cur, hv, hB, hh, hn, hc, hs, ht⟩⟩ := h
  · exact .inl ⟨hv, List.eq_nil_of_length_eq_zero h0⟩
  · refine .inr ⟨g, cap, hv, hB, ⟨cur.toList.drop l.length, ?_, ?_⟩, hc⟩
    · unfold Blk; rw [hh, ← ht]; simp
    · simp; omega
theorem rd_of_own {w : World} {t B : Nat} {l : List UInt8} {v : Value} (h : w.ownsRow B t 1 v l.length (bv l)) : ∃ A cap, v = .slice A l.length cap ∧ Rd w w.heap.size A l ∧ cap ≤ maxLen ∧ (A = none → cap = 0 ∧ l = []) ∧ l.length ≤ cap := by
  rcases row_of_own h with ⟨rfl, rfl⟩ | ⟨g, cap, rfl, _, hr, hc⟩
  · exact ⟨none, 0, rfl, Rd.nil _ _ _, by simp [maxLen], fun _ => ⟨rfl, rfl⟩, Nat.zero_le _⟩
  · exact ⟨_, cap, rfl, Rd.of_row hr hr.lt, hc, (fun h => by cases h), hr.le⟩
theorem grown_below {w w' : World} {B t n : Nat} {v : Value} {xs : List Value} (hg : w.grownBy w' v.ownBlock) (h : w.ownsRow B t 1 v n xs) (hB : B ≤ w.heap.size) : Below B w w' :=
  (Below.refl B w).grown hg hB fun k hk => (h.lt k hk).1
/-- The one cell of a block that was just made. -/
theorem new_cell (w : World) (t : TypeId) (x : Value) : ∀ j u, [x][j]? = some u → (w.alloc (.cells #[x] t)).cell? ((⟨w.heap.size, 0, none⟩ : Addr).add j) = some u := by
  intro j u hj
  match j, hj with
  | 0, hj =>
    cases hj
    rw [show (⟨w.heap.size, 0, none⟩ : Addr).add 0 = ⟨w.heap.size, 0, none⟩ from by simp [Addr.add]]
    exact (Blk.new w t [x]).cell 0
theorem one_u8 (n : Int) : ∀ u ∈ [Value.int .u8 n], u.oneCell' = true := fun u hu => by simp at hu; subst hu; rfl
theorem fld_wrap (k : Nat) (hk : k ≤ 8) (n : Int) : fld k (n % 18446744073709551616) = fld k n := by
  refine List.map_congr_left fun i hi => ?_
  rw [List.mem_range] at hi
  unfold fbyte
  have hc : k - 1 - i = 0 ∨ k - 1 - i = 1 ∨ k - 1 - i = 2 ∨ k - 1 - i = 3 ∨ k - 1 - i = 4 ∨ k - 1 - i = 5 ∨ k - 1 - i = 6 ∨ k - 1 - i = 7 := by omega
  rcases hc with h | h | h | h | h | h | h | h
  all_goals (rw [h]; congr 2; simp only [Nat.reduceMul, Int.reducePow]; omega)
end Go.Proofs.Ytjkfgbmlhglnfaa
