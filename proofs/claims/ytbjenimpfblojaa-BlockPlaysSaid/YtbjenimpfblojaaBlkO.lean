/- Layer 4: what Copy calls of the library: slices.Clone, maps.Clone. -/
import Derived.Test.YtbjenimpfblojaaBlkE
import Derived.Shelf.SlMaps.Clone
import Derived.Maps.AppendAt
import Derived.OwnWalk
namespace Go.Proofs.Ytbjenimpfblojaa
open Go.RowKit Go.Maps
set_option linter.unusedVariables false
set_option maxRecDepth 100000

set_option maxHeartbeats 2000000 in
theorem clone_map_ (b : Nat) (es : Array MapEntry) (clock : Nat) (w : World) (hb : w.heap[b]? = some (.map es clock)) :
    Calls Try.prog 65 #[.map (some b)] w fun e w' => e = .returned (.map (some w.heap.size)) ∧ w' = w.alloc (.map es clock) := by
  have hq := fun w => run_eql_map_nil_sl (P := Try.prog) w 76 _ _ (some b) Try.underlying76
  go_enter Try.func65, Try.ntmps65
  go_wp2
  rw [run_callFunc_extern Try.func83 (by kernel_rfl) (by kernel_rfl) (by kernel_rfl) (e := Extern.MapsClone.clone) (by kernel_rfl), run_maps_clone_sl w 76 hb]
  simp only [Result.andThen]
  rw [Oper.upon_value]
  go_wp2
  rw [run_typeAssert_map_sl _ 76 20 _ _ _ Try.underlying76]
  simp only [Result.andThen]
  rw [Oper.upon_value]
  go_wp2
  go_ret
  exact ⟨rfl, rfl⟩
theorem clone_map (b n : Nat) (l : List (Nat × List UInt8)) (w : World) (h : Nw w b n l) :
    Calls Try.prog 65 #[.map (some b)] w fun e w' => e = .returned (.map (some w.heap.size)) ∧ Nw w' w.heap.size n l ∧ Turn (fun _ => False) w w' := by
  obtain ⟨es, clock, hb, F, hs, hD⟩ := h
  refine (clone_map_ b es clock w hb).mono ?_
  rintro e w' ⟨he, rfl⟩
  exact ⟨he, ⟨es, clock, heap_alloc_new w _, F, hs, hD⟩, (Turn.refl _ _).alloc _⟩
theorem info_write3_ : (Try.prog.info? 91).map (fun i => (i.zero, i.size, i.bytes)) = some (some (.agg (wv (0, zeros)).toArray), 129, 136) := by kernel_rfl
theorem own_new {w : World} {t s : Nat} : (w.alloc (.cells #[] t)).ownsRow w.heap.size t s (.slice (some ⟨w.heap.size, 0, none⟩) 0 0) 0 [] :=
  ⟨by simp, .inr ⟨_, 0, #[], rfl, Nat.le_refl _, heap_alloc_new w _, Nat.le_refl _, by simp [maxLen], by simp, by simp⟩⟩
set_option maxRecDepth 100000 in
theorem clone_sectors (g n c : Nat) (xs : List Value) (w : World) (hn : 0 < n) (hn2 : n ≤ 16384) (hx : xs.length = n * 128) (h1 : ∀ u ∈ xs, u.oneCell' = true) (h : w.rangeAt g 0 xs) :
    Calls Try.prog 63 #[.slice (some ⟨g, 0, none⟩) n c] w fun e w' => ∃ g' c' r, e = .returned (.slice (some ⟨g', 0, none⟩) n c') ∧ Blk w' g' 88 (xs ++ r) ∧ w.heap.size ≤ g' ∧ Turn (fun _ => False) w w' := by
  obtain ⟨i, hi, hz, hs, hb⟩ := info_parts_ info_sector3
  have HI := Lib.hid hi
  have HZ := Lib.hid hz
  have HS := Lib.hid hs
  have HB := Lib.hid hb
  have H := Lib.hid h
  have HN : Hid (∀ (j : Nat) (u : Value), xs[j]? = some u → (w.alloc (.cells #[] 88)).cell? ((⟨g, 0, none⟩ : Addr).add j) = some u) := Lib.hid (fun j u hu => by
    rw [Addr.add_mid]
    exact World.rangeAt_alloc h _ j u hu)
  have heq := fun w => Lib.run_eql_slice_nil (P := Try.prog) w 74 88 (some ⟨g, 0, none⟩) n c 0 0 Try.underlying74
  clear h hi hz hs hb
  go_enter Try.func63, Try.ntmps63
  go_wp2_with (at_builtin; refine wpList_append_own_at _ rfl _ _ 74 rfl w.heap.size 88 i _ 128 128 Try.underlying74 HI.out HZ.out HS.out HB.out (by rfl) (by decide) (.slice (some ⟨w.heap.size, 0, none⟩) 0 0) 0 [] rfl own_new ⟨g, 0, none⟩ n c xs rfl hx HN.out h1 (by unfold maxLen; omega) (by omega) (by simp) ?_; intro v5 w5 ho5 hg5 hv5 hl5)
  go_wp2
  go_ret
  simp only [Nat.zero_add, List.nil_append] at ho5
  have tn : Turn (fun _ => False) w w5 := by
    have t1 : Turn (fun _ => False) w (w.alloc (.cells #[] 88)) := (Turn.refl _ _).alloc _
    exact t1.trans_new (T := fun k => w.heap.size = k) ⟨hg5.os, hg5.tape, hg5.output, hg5.size, fun k hk hne => hg5.block k hk (fun e => hne (by simp [Value.ownBlock] at e; exact e.symm))⟩ (fun k hk e => by omega)
  obtain ⟨_, ⟨_, h0⟩ | ⟨g', c', cur, e, hB, hh, hnc, hm, hs, ht⟩⟩ := ho5
  · omega
  · subst e
    refine ⟨g', c', cur.toList.drop (n * 128), rfl, ?_, hB, tn⟩
    unfold Blk
    rw [← ht, List.take_append_drop]
    exact hh
set_option maxRecDepth 100000 in
theorem clone_writes (v : Value) (n : Nat) (hn2 : n ≤ 1000000000) (xs : List Value) (w : World) (h1 : ∀ u ∈ xs, u.oneCell' = true) (h : w.ownsRow 0 91 129 v n xs) :
    Calls Try.prog 64 #[v] w fun e w' => ∃ v', e = .returned v' ∧ w'.ownsRow w.heap.size 91 129 v' n xs ∧ Turn (fun _ => False) w w' := by
  obtain ⟨hx, ⟨rfl, h0⟩ | ⟨g, c, cur, rfl, hB, hh, hnc, hm, hs, ht⟩⟩ := h
  · have heq := fun w => Lib.run_eql_slice_nil (P := Try.prog) w 75 91 none 0 0 0 0 Try.underlying75
    go_enter Try.func64, Try.ntmps64
    go_wp2
    go_ret
    exact ⟨_, rfl, ⟨hx, .inl ⟨rfl, h0⟩⟩, Turn.refl _ _⟩
  · obtain ⟨i, hi, hz, hsz, hb⟩ := info_parts_ info_write3_
    have HI := Lib.hid hi
    have HZ := Lib.hid hz
    have HS := Lib.hid hsz
    have HB := Lib.hid hb
    have hr : w.rangeAt g 0 xs := fun j u hu => by
      rw [← ht, List.getElem?_take] at hu
      split at hu
      · simpa [World.cell?, hh] using hu
      · cases hu
    have HN : Hid (∀ (j : Nat) (u : Value), xs[j]? = some u → (w.alloc (.cells #[] 91)).cell? ((⟨g, 0, none⟩ : Addr).add j) = some u) := Lib.hid (fun j u hu => by
      rw [Addr.add_mid]
      exact World.rangeAt_alloc hr _ j u hu)
    have heq := fun w => Lib.run_eql_slice_nil (P := Try.prog) w 75 91 (some ⟨g, 0, none⟩) n c 0 0 Try.underlying75
    clear hi hz hsz hb hr hh hs ht
    go_enter Try.func64, Try.ntmps64
    go_wp2_with (at_builtin; refine wpList_append_own_at _ rfl _ _ 75 rfl w.heap.size 91 i _ 129 136 Try.underlying75 HI.out HZ.out HS.out HB.out (by rfl) (by decide) (.slice (some ⟨w.heap.size, 0, none⟩) 0 0) 0 [] rfl own_new ⟨g, 0, none⟩ n c xs rfl hx HN.out h1 (by unfold maxLen; omega) (by omega) (by simp) ?_; intro v5 w5 ho5 hg5 hv5 hl5)
    go_wp2
    go_ret
    simp only [Nat.zero_add, List.nil_append] at ho5
    refine ⟨_, rfl, ho5, ?_⟩
    have t1 : Turn (fun _ => False) w (w.alloc (.cells #[] 91)) := (Turn.refl _ _).alloc _
    exact t1.trans_new (T := fun k => w.heap.size = k) ⟨hg5.os, hg5.tape, hg5.output, hg5.size, fun k hk hne => hg5.block k hk (fun e => hne (by simp [Value.ownBlock] at e; exact e.symm))⟩ (fun k hk e => by omega)
end Go.Proofs.Ytbjenimpfblojaa
