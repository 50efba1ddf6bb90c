/- Layer 4: a new disk. -/
import Derived.Test.YtmedljnbcpdoeaaDoorBlkD
namespace Go.Proofs.YtmedljnbcpdoeaaDoor
open Go.RowKit Go.Maps
set_option linter.unusedVariables false

def zeros : List UInt8 := List.replicate 128 0
def fresh (n : Nat) : Dsk := { kept := List.replicate n zeros, pend := [], fuse := -1, dead := false }
theorem fresh_ok {n : Nat} (h0 : 0 < n) (h1 : n ≤ 16384) : (fresh n).Ok :=
  ⟨by simpa [fresh] using h0, by simpa [fresh] using h1, fun s hs => by rw [(List.mem_replicate.1 hs).2]; rfl, fun x hx => (by cases hx), by simp [fresh]⟩
theorem made_same (k m : Nat) (v : Value) (hk : 0 < k) : madeCells (List.replicate k v).toArray m = (List.replicate m v).toArray := by
  unfold madeCells
  apply Array.ext
  · simp
  · intro i h3 h4
    have : i % k < k := Nat.mod_lt _ hk
    simp [this]
theorem fresh_cells (n : Nat) : madeCells (Value.agg (bv zeros).toArray).cells (n * 128) = ((fresh n).kept.flatMap bv).toArray := by
  have h1 : (fresh n).kept.flatMap bv = List.replicate (n * 128) (Value.int .u8 0) := by
    simp only [fresh]
    induction n with
    | zero => rfl
    | succ n ih => rw [List.replicate_succ, List.flatMap_cons, ih, Nat.succ_mul, Nat.add_comm, ← List.replicate_append_replicate]; rfl
  rw [h1]
  have h2 : (Value.agg (bv zeros).toArray).cells = (List.replicate 128 (Value.int .u8 0)).toArray := by
    simp only [Value.cells, zeros, bv, List.map_replicate]; rfl
  rw [h2]
  exact made_same 128 _ _ (by decide)
theorem info_sector3 : (Tryd.prog.info? 97).map (fun i => (i.zero, i.size, i.bytes)) = some (some (.agg (bv zeros).toArray), 128, 128) := by kernel_rfl
theorem info_parts_ {i : Option TypeInfo} {z : Option Value} {s b : Nat} (h : i.map (fun i => (i.zero, i.size, i.bytes)) = some (z, s, b)) : ∃ j, i = some j ∧ j.zero = z ∧ j.size = s ∧ j.bytes = b := by
  cases i with
  | none => cases h
  | some j => simp at h; exact ⟨j, rfl, h.1, h.2.1, h.2.2⟩
theorem make_sectors (n : Nat) (h1 : n ≤ 16384) (w : World) : (Instr.makeSlice 69 (.int .i64 n) (.int .i64 n)).run Tryd.prog w = .ok (.slice (some ⟨w.heap.size, 0, none⟩) n n) (w.alloc (.cells ((fresh n).kept.flatMap bv).toArray 97)) := by
  obtain ⟨i, hi, hz, hs, hb⟩ := info_parts_ info_sector3
  have := run_makeSlice (P := Tryd.prog) (w := w) 69 97 i _ Tryd.underlying69 hi hz .i64 .i64 n n (Int.natCast_nonneg _) (Int.le_refl _) (by rw [hs]; simp; omega) (by rw [hb]; omega) (by omega)
  rw [this, hs, Int.toNat_natCast, fresh_cells]
theorem forget_any {p : Nat} {w : World} {a b c d e : Value} (h : Blk w p 73 [a, b, c, d, e]) :
    Calls Tryd.prog 32 #[.pointer (some ⟨p, 0, none⟩)] w fun e' w' => e' = .returned (.tuple #[]) ∧ w' = ((w.setCell ⟨p, 1, none⟩ (.slice none 0 0)).setCell ⟨p, 2, none⟩ (.map (some w.heap.size))).alloc (.map #[] 0) := by
  have hmm := @run_makeMap Tryd.prog
  have c1 : w.cell? ⟨p, 1, none⟩ = some b := h.cell 1
  have c2 : w.cell? ⟨p, 2, none⟩ = some c := h.cell 2
  have f1 := h.free 1
  have f2 := h.free 2
  have hlt := h.lt
  have hne : p ≠ w.heap.size := Nat.ne_of_lt hlt
  clear h
  go_enter Tryd.func32, Tryd.ntmps32
  go_wp2
  go_end0
  exact ⟨rfl, rfl⟩
theorem new_ok (n : Nat) (h0 : 0 < n) (h1 : n ≤ 16384) (w : World) :
    Calls Tryd.prog 6 #[.int .i64 n] w fun e w' => ∃ p, e = .returned (.tuple #[.pointer (some ⟨p, 0, none⟩), .int .i64 0]) ∧ Dk (fun k => w.heap.size ≤ k) w' p (fresh n) ∧ Turn (fun _ => False) w w' := by
  have hms := make_sectors n h1
  have OK := Lib.hid (fresh_ok h0 h1)
  have hk0 : (fresh n).kept.length = n := by simp [fresh]
  have HK := Lib.hid hk0
  obtain ⟨C, hC⟩ : ∃ C, (fresh n).kept.flatMap bv = C := ⟨_, rfl⟩
  rw [hC] at hms
  have HC := Lib.hid hC
  have hb := Lib.hid (Blk.new (w.alloc (.cells C.toArray 97)) 73 [.slice (some ⟨w.heap.size, 0, none⟩) n n, .slice none 0 0, .map none, .int .i64 (-1), .bool false])
  have hlk := Lib.hid ((Blk.new w 97 C).alloc (.cells [.slice (some ⟨w.heap.size, 0, none⟩) n n, .slice none 0 0, .map none, .int .i64 (-1), .bool false].toArray 73))
  have t0 : Hid (Turn (fun _ => False) w ((w.alloc (.cells C.toArray 97)).alloc (.cells [.slice (some ⟨w.heap.size, 0, none⟩) n n, .slice none 0 0, .map none, .int .i64 (-1), .bool false].toArray 73))) := ((Turn.refl _ _).alloc _).alloc _
  have g0 : (1 : Int) ≤ (n : Int) := by omega
  have g1 : (n : Int) ≤ 16384 := by omega
  clear hC hk0 h0 h1
  go_enter Tryd.func6, Tryd.ntmps6
  go_wp2_with fail
  obtain ⟨W, hW⟩ : ∃ W, (w.alloc (.cells C.toArray 97)).alloc (.cells [.slice (some ⟨w.heap.size, 0, none⟩) n n, .slice none 0 0, .map none, .int .i64 (-1), .bool false].toArray 73) = W := ⟨_, rfl⟩
  have hz : W.heap.size = w.heap.size + 2 := by rw [← hW]; simp
  have HZ := Lib.hid hz
  have HB : Hid (Blk W (w.heap.size + 1) 73 [.slice (some ⟨w.heap.size, 0, none⟩) n n, .slice none 0 0, .map none, .int .i64 (-1), .bool false]) := by rw [← hW]; exact Lib.hid (by simpa using hb.out)
  rw [hW] at hlk t0
  clear hb hz
  rw [show (w.alloc (.cells C.toArray 97)).alloc (.cells #[.slice (some ⟨w.heap.size, 0, none⟩) n n, .slice none 0 0, .map none, .int .i64 (-1), .bool false] 73) = W from hW]
  refine (forget_any HB.out).mono ?_
  rintro e w' ⟨rfl, rfl⟩
  clear hW
  go_wp2
  go_ret2
  have t1 : Turn (· = w.heap.size + 1) W (((W.setCell ⟨w.heap.size + 1, 1, none⟩ (.slice none 0 0)).setCell ⟨w.heap.size + 1, 2, none⟩ (.map (some W.heap.size))).alloc (.map #[] 0)) :=
    (((Turn.refl (· = w.heap.size + 1) W).setCell (p := ⟨w.heap.size + 1, 1, none⟩) (.inl rfl) _).setCell (p := ⟨w.heap.size + 1, 2, none⟩) (.inl rfl) _).alloc _
  have hmp := World.ownsMap_made (H := Unit) ((W.setCell ⟨w.heap.size + 1, 1, none⟩ (.slice none 0 0)).setCell ⟨w.heap.size + 1, 2, none⟩ (.map (some W.heap.size))) Tryd.prog 3 (plainElem Tryd.prog 3)
  rw [show ((W.setCell ⟨w.heap.size + 1, 1, none⟩ (.slice none 0 0)).setCell ⟨w.heap.size + 1, 2, none⟩ (.map (some W.heap.size))).heap.size = W.heap.size from by simp] at hmp
  refine ⟨_, rfl, ⟨OK.out, w.heap.size, W.heap.size, .slice none 0 0, ⟨?_, ?_, ⟨rfl, .inl ⟨rfl, rfl⟩⟩, hmp, by omega, by have := HZ.out; omega, by have := HZ.out; omega, by simp [Value.ownBlock], by simp [Value.ownBlock], by simp [Value.ownBlock]⟩, ?_⟩, ?_⟩
  · rw [HK.out]
    exact ⟨n, ((HB.out.put 1 _).put 2 _).alloc _⟩
  · rw [HC.out]
    exact ⟨[], by rw [List.append_nil]; exact hlk.out.turn t1 (by omega)⟩
  · intro k hk
    have := HZ.out
    rcases hk with rfl | rfl | rfl | hk
    · omega
    · omega
    · omega
    · simp [Value.ownBlock] at hk
  · exact t0.out.trans_new t1 (fun k hk e => by omega)
end Go.Proofs.YtmedljnbcpdoeaaDoor
