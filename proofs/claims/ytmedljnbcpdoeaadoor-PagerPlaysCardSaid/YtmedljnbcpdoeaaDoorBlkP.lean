/- Layer 4: what Copy calls of the library: slices.Clone, maps.Clone. -/
import Derived.Test.YtmedljnbcpdoeaaDoorBlkE
import Derived.Shelf.SlMaps.Clone
import Derived.Maps.AppendAt
import Derived.OwnWalk
import Derived.Test.YtmedljnbcpdoeaaDoorBlkK
import Derived.Lib.SlBytesConst
import Derived.Deep.RegionHeld3
namespace Go.Proofs.YtmedljnbcpdoeaaDoor
open Go.RowKit Go.Maps
set_option linter.unusedVariables false
set_option maxRecDepth 100000

theorem info_write3_ : (Tryd.prog.info? 99).map (fun i => (i.zero, i.size, i.bytes)) = some (some (.agg (wv (0, zeros)).toArray), 129, 136) := by kernel_rfl
theorem own_new {w : World} {t s : Nat} : (w.alloc (.cells #[] t)).ownsRow w.heap.size t s (.slice (some ⟨w.heap.size, 0, none⟩) 0 0) 0 [] :=
  ⟨by simp, .inr ⟨_, 0, #[], rfl, Nat.le_refl _, heap_alloc_new w _, Nat.le_refl _, by simp [maxLen], by simp, by simp⟩⟩
end Go.Proofs.YtmedljnbcpdoeaaDoor
/- Layer 4: the chapter's example, walked. -/
namespace Go.Proofs.YtmedljnbcpdoeaaDoor
open Go.RowKit Go.Maps
set_option linter.unusedVariables false

/-- All that has turned since w0 lies from block B on, the disk's blocks too. -/
def Lv (B : Nat) (w0 : World) (S : Nat → Prop) (w : World) : Prop := Below B w0 w ∧ B ≤ w.heap.size ∧ ∀ k, S k → B ≤ k
theorem Lv.step {B : Nat} {w0 a b : World} {S S' : Nat → Prop} (h : Lv B w0 S a) (hs : Stp S a S' b) : Lv B w0 S' b :=
  ⟨h.1.trans (hs.1.below h.2.1 h.2.2), Nat.le_trans h.2.1 hs.1.size, fun k hk => (hs.2 k hk).elim (h.2.2 k) (fun e => Nat.le_trans h.2.1 e)⟩
theorem Lv.still {B : Nat} {w0 a b : World} {S : Nat → Prop} (h : Lv B w0 S a) (ht : Turn (fun _ => False) a b) : Lv B w0 S b := h.step (Stp.quiet ht)
theorem far_step {S S' : Nat → Prop} {a b : World} {g t : Nat} {cs : List Value} (h : Stp S a S' b) (hb : Blk a g t cs) (hn : ¬ S g) : Blk b g t cs ∧ ¬ S' g :=
  ⟨hb.turn h.1 hn, fun hk => (h.2 g hk).elim hn (fun e => by have := hb.lt; omega)⟩
theorem far_still {S : Nat → Prop} {a b : World} {g t : Nat} {cs : List Value} (h : Turn (fun _ => False) a b) (hb : Blk a g t cs) (hn : ¬ S g) : Blk b g t cs ∧ ¬ S g := ⟨hb.turn h (fun h => h), hn⟩
theorem by_mark {S : Nat → Prop} (w : World) (hS : ∀ k, S k → k < w.heap.size) (l : List UInt8) (n : Nat) (C : Array Value) (fr : Nat × Nat) (hC : C = (bv l).toArray) (hn : l.length = n) :
    By S (w.alloc (.cells C 5 fr)) (.slice (some ⟨w.heap.size, 0, none⟩) n n) l := by
  subst hn hC
  refine ⟨_, _, rfl, fun _ => ⟨_, rfl, by simp, fun h => absurd (hS _ h) (by simp), fun j c hj => ?_⟩⟩
  rw [Addr.add_mid, Nat.zero_add, World.cell?_alloc_mark]
  rw [List.getElem?_toArray, bv_at, hj]; rfl
theorem iv_new {S : Nat → Prop} (w : World) (hS : ∀ k, S k → k < w.heap.size) (zs : List Int) (n : Nat) (C : Array Value) (hC : C = (zs.map (Value.int .i64)).toArray) (hn : zs.length = n) :
    Iv S (w.alloc (.cells C 3)) (.slice (some ⟨w.heap.size, 0, none⟩) n n) zs := by
  subst hn hC
  refine ⟨_, _, rfl, fun _ => ⟨_, _, rfl, by simp, fun h => absurd (hS _ h) (by simp), fun j z hj => ?_⟩⟩
  have := (Blk.new w 3 (zs.map (Value.int .i64))).cell j
  rw [Nat.zero_add]
  refine this.trans ?_
  rw [List.getElem?_map, hj]; rfl
theorem iv_nil (S : Nat → Prop) (w : World) : Iv S w (.slice none 0 0) [] := ⟨_, _, rfl, fun h => absurd h (by simp)⟩
def tA : List UInt8 := full [97]
def tB : List UInt8 := full [98]
def tC : List UInt8 := full [99]
def tQ : List UInt8 := full [113]
def L0 : Dsk := fresh 2
def L1 : Dsk := { kept := [zeros, zeros], pend := [(0, tA)], fuse := -1, dead := false }
def L2 : Dsk := { kept := [zeros, zeros], pend := [(0, tA), (0, tB)], fuse := -1, dead := false }
def L3 : Dsk := { kept := [zeros, zeros], pend := [(0, tA), (0, tB), (1, tC)], fuse := -1, dead := false }
def L4 : Dsk := { kept := [tA, tC], pend := [], fuse := -1, dead := false }
def L5 : Dsk := { kept := [tA, tC], pend := [], fuse := 1, dead := false }
def L6 : Dsk := { kept := [tA, tC], pend := [(1, tQ)], fuse := 0, dead := false }
def L7 : Dsk := { kept := [tA, tC], pend := [(1, tQ)], fuse := 0, dead := true }
theorem L_1 : L0.write 0 [97] = (L1, 0) := rfl
theorem L_2 : L1.write 0 [98] = (L2, 0) := rfl
theorem L_3 : L2.write 1 [99] = (L3, 0) := rfl
theorem L_4 : L3.crashed [0, 2] = L4 := rfl
theorem L_5 : L4.arm 1 = (L5, 0) := rfl
theorem L_6 : L5.write 1 [113] = (L6, 0) := rfl
theorem L_7 : L6.flush = (L7, 20) := rfl
theorem L_8 : L7.crashed [] = L4 := rfl
theorem R_3 : L3.has 0 = tB := rfl
theorem R_40 : L4.has 0 = tA := rfl
theorem R_41 : L4.has 1 = tC := rfl
end Go.Proofs.YtmedljnbcpdoeaaDoor
/- Layer 4: Copy. -/
namespace Go.Proofs.YtmedljnbcpdoeaaDoor
open Go.RowKit Go.Maps
set_option linter.unusedVariables false

theorem own_zero_ {w : World} {B t s n : Nat} {v : Value} {xs : List Value} (h : w.ownsRow B t s v n xs) : w.ownsRow 0 t s v n xs := by
  obtain ⟨hx, h | ⟨g, c, cur, e, hB, hr⟩⟩ := h
  · exact ⟨hx, .inl h⟩
  · exact ⟨hx, .inr ⟨g, c, cur, e, Nat.zero_le _, hr⟩⟩
theorem own_lt_ {w : World} {B t s n : Nat} {v : Value} {xs : List Value} (h : w.ownsRow B t s v n xs) : ∀ k, v.ownBlock = some k → k < w.heap.size := by
  obtain ⟨_, ⟨rfl, _⟩ | ⟨g, c, cur, rfl, hB, hh, _⟩⟩ := h
  · intro k hk; simp [Value.ownBlock] at hk
  · intro k hk
    simp [Value.ownBlock] at hk
    subst hk
    exact (Array.getElem?_eq_some_iff.1 hh).1
theorem own_ge_ {w : World} {B t s n : Nat} {v : Value} {xs : List Value} (h : w.ownsRow B t s v n xs) : ∀ k, v.ownBlock = some k → B ≤ k := by
  obtain ⟨_, ⟨rfl, _⟩ | ⟨g, c, cur, rfl, hB, hh, _⟩⟩ := h
  · intro k hk; simp [Value.ownBlock] at hk
  · intro k hk
    simp [Value.ownBlock] at hk
    subst hk
    exact hB
theorem Nw.lt {w : World} {g n : Nat} {l : List (Nat × List UInt8)} (h : Nw w g n l) : g < w.heap.size := by
  obtain ⟨es, clock, hb, _⟩ := h
  exact (Array.getElem?_eq_some_iff.1 hb).1
end Go.Proofs.YtmedljnbcpdoeaaDoor
