/- Layer 4: what Copy calls of the library: slices.Clone, maps.Clone. -/
import Derived.Test.YthhmodbggngelaaBlkE
import Derived.Shelf.SlMaps.Clone
import Derived.Maps.AppendAt
import Derived.OwnWalk
import Derived.Test.YthhmodbggngelaaBlkK
import Derived.Lib.SlBytesConst
import Derived.Deep.RegionHeld3
namespace Go.Proofs.Ythhmodbggngelaa
open Go.RowKit Go.Maps
set_option linter.unusedVariables false
set_option maxRecDepth 100000

set_option maxHeartbeats 2000000 in
theorem clone_map_ (b : Nat) (es : Array MapEntry) (clock : Nat) (w : World) (hb : w.heap[b]? = some (.map es clock)) :
    Calls Try.prog 36 #[.map (some b)] w fun e w' => e = .returned (.map (some w.heap.size)) ∧ w' = w.alloc (.map es clock) := by
  have hq := fun w => run_eql_map_nil_sl (P := Try.prog) w 49 _ _ (some b) Try.underlying49
  go_enter Try.func36, Try.ntmps36
  go_wp2
  rw [run_callFunc_extern Try.func51 (by kernel_rfl) (by kernel_rfl) (by kernel_rfl) (e := Extern.MapsClone.clone) (by kernel_rfl), run_maps_clone_sl w 49 hb]
  simp only [Result.andThen]
  rw [Oper.upon_value]
  go_wp2
  rw [run_typeAssert_map_sl _ 49 20 _ _ _ Try.underlying49]
  simp only [Result.andThen]
  rw [Oper.upon_value]
  go_wp2
  go_ret
  exact ⟨rfl, rfl⟩
theorem clone_map (b n : Nat) (l : List (Nat × List UInt8)) (w : World) (h : Nw w b n l) :
    Calls Try.prog 36 #[.map (some b)] w fun e w' => e = .returned (.map (some w.heap.size)) ∧ Nw w' w.heap.size n l ∧ Turn (fun _ => False) w w' := by
  obtain ⟨es, clock, hb, F, hs, hD⟩ := h
  refine (clone_map_ b es clock w hb).mono ?_
  rintro e w' ⟨he, rfl⟩
  exact ⟨he, ⟨es, clock, heap_alloc_new w _, F, hs, hD⟩, (Turn.refl _ _).alloc _⟩
theorem info_write3_ : (Try.prog.info? 66).map (fun i => (i.zero, i.size, i.bytes)) = some (some (.agg (wv (0, zeros)).toArray), 129, 136) := by kernel_rfl
theorem own_new {w : World} {t s : Nat} : (w.alloc (.cells #[] t)).ownsRow w.heap.size t s (.slice (some ⟨w.heap.size, 0, none⟩) 0 0) 0 [] :=
  ⟨by simp, .inr ⟨_, 0, #[], rfl, Nat.le_refl _, heap_alloc_new w _, Nat.le_refl _, by simp [maxLen], by simp, by simp⟩⟩
set_option maxRecDepth 100000 in
theorem clone_sectors (g n c : Nat) (xs : List Value) (w : World) (hn : 0 < n) (hn2 : n ≤ 16384) (hx : xs.length = n * 128) (h1 : ∀ u ∈ xs, u.oneCell' = true) (h : w.rangeAt g 0 xs) :
    Calls Try.prog 34 #[.slice (some ⟨g, 0, none⟩) n c] w fun e w' => ∃ g' c' r, e = .returned (.slice (some ⟨g', 0, none⟩) n c') ∧ Blk w' g' 64 (xs ++ r) ∧ w.heap.size ≤ g' ∧ Turn (fun _ => False) w w' := by
  obtain ⟨i, hi, hz, hs, hb⟩ := info_parts_ info_sector3
  have HI := Lib.hid hi
  have HZ := Lib.hid hz
  have HS := Lib.hid hs
  have HB := Lib.hid hb
  have H := Lib.hid h
  have HN : Hid (∀ (j : Nat) (u : Value), xs[j]? = some u → (w.alloc (.cells #[] 64)).cell? ((⟨g, 0, none⟩ : Addr).add j) = some u) := Lib.hid (fun j u hu => by
    rw [Addr.add_mid]
    exact World.rangeAt_alloc h _ j u hu)
  have heq := fun w => Lib.run_eql_slice_nil (P := Try.prog) w 47 64 (some ⟨g, 0, none⟩) n c 0 0 Try.underlying47
  clear h hi hz hs hb
  go_enter Try.func34, Try.ntmps34
  go_wp2_with (at_builtin; refine wpList_append_own_at _ rfl _ _ 47 rfl w.heap.size 64 i _ 128 128 Try.underlying47 HI.out HZ.out HS.out HB.out (by rfl) (by decide) (.slice (some ⟨w.heap.size, 0, none⟩) 0 0) 0 [] rfl own_new ⟨g, 0, none⟩ n c xs rfl hx HN.out h1 (by unfold maxLen; omega) (by omega) (by simp) ?_; intro v5 w5 ho5 hg5 hv5 hl5)
  go_wp2
  go_ret
  simp only [Nat.zero_add, List.nil_append] at ho5
  have tn : Turn (fun _ => False) w w5 := by
    have t1 : Turn (fun _ => False) w (w.alloc (.cells #[] 64)) := (Turn.refl _ _).alloc _
    exact t1.trans_new (T := fun k => w.heap.size = k) ⟨hg5.os, hg5.tape, hg5.output, hg5.size, fun k hk hne => hg5.block k hk (fun e => hne (by simp [Value.ownBlock] at e; exact e.symm))⟩ (fun k hk e => by omega)
  obtain ⟨_, ⟨_, h0⟩ | ⟨g', c', cur, e, hB, hh, hnc, hm, hs, ht⟩⟩ := ho5
  · omega
  · subst e
    refine ⟨g', c', cur.toList.drop (n * 128), rfl, ?_, hB, tn⟩
    unfold Blk
    rw [← ht, List.take_append_drop]
    exact hh
set_option maxRecDepth 100000 in
theorem clone_writes (v : Value) (n : Nat) (hn2 : n ≤ 1000000000) (xs : List Value) (w : World) (h1 : ∀ u ∈ xs, u.oneCell' = true) (h : w.ownsRow 0 66 129 v n xs) :
    Calls Try.prog 35 #[v] w fun e w' => ∃ v', e = .returned v' ∧ w'.ownsRow w.heap.size 66 129 v' n xs ∧ Turn (fun _ => False) w w' := by
  obtain ⟨hx, ⟨rfl, h0⟩ | ⟨g, c, cur, rfl, hB, hh, hnc, hm, hs, ht⟩⟩ := h
  · have heq := fun w => Lib.run_eql_slice_nil (P := Try.prog) w 48 66 none 0 0 0 0 Try.underlying48
    go_enter Try.func35, Try.ntmps35
    go_wp2
    go_ret
    exact ⟨_, rfl, ⟨hx, .inl ⟨rfl, h0⟩⟩, Turn.refl _ _⟩
  · obtain ⟨i, hi, hz, hsz, hb⟩ := info_parts_ info_write3_
    have HI := Lib.hid hi
    have HZ := Lib.hid hz
    have HS := Lib.hid hsz
    have HB := Lib.hid hb
    have hr : w.rangeAt g 0 xs := fun j u hu => by
      rw [← ht, List.getElem?_take] at hu
      split at hu
      · simpa [World.cell?, hh] using hu
      · cases hu
    have HN : Hid (∀ (j : Nat) (u : Value), xs[j]? = some u → (w.alloc (.cells #[] 66)).cell? ((⟨g, 0, none⟩ : Addr).add j) = some u) := Lib.hid (fun j u hu => by
      rw [Addr.add_mid]
      exact World.rangeAt_alloc hr _ j u hu)
    have heq := fun w => Lib.run_eql_slice_nil (P := Try.prog) w 48 66 (some ⟨g, 0, none⟩) n c 0 0 Try.underlying48
    clear hi hz hsz hb hr hh hs ht
    go_enter Try.func35, Try.ntmps35
    go_wp2_with (at_builtin; refine wpList_append_own_at _ rfl _ _ 48 rfl w.heap.size 66 i _ 129 136 Try.underlying48 HI.out HZ.out HS.out HB.out (by rfl) (by decide) (.slice (some ⟨w.heap.size, 0, none⟩) 0 0) 0 [] rfl own_new ⟨g, 0, none⟩ n c xs rfl hx HN.out h1 (by unfold maxLen; omega) (by omega) (by simp) ?_; intro v5 w5 ho5 hg5 hv5 hl5)
    go_wp2
    go_ret
    simp only [Nat.zero_add, List.nil_append] at ho5
    refine ⟨_, rfl, ho5, ?_⟩
    have t1 : Turn (fun _ => False) w (w.alloc (.cells #[] 66)) := (Turn.refl _ _).alloc _
    exact t1.trans_new (T := fun k => w.heap.size = k) ⟨hg5.os, hg5.tape, hg5.output, hg5.size, fun k hk hne => hg5.block k hk (fun e => hne (by simp [Value.ownBlock] at e; exact e.symm))⟩ (fun k hk e => by omega)
end Go.Proofs.Ythhmodbggngelaa
/- Layer 4: the chapter's example, walked. -/
namespace Go.Proofs.Ythhmodbggngelaa
open Go.RowKit Go.Maps
set_option linter.unusedVariables false

/-- All that has turned since w0 lies from block B on, the disk's blocks too. -/
def Lv (B : Nat) (w0 : World) (S : Nat → Prop) (w : World) : Prop := Below B w0 w ∧ B ≤ w.heap.size ∧ ∀ k, S k → B ≤ k
theorem Lv.step {B : Nat} {w0 a b : World} {S S' : Nat → Prop} (h : Lv B w0 S a) (hs : Stp S a S' b) : Lv B w0 S' b :=
  ⟨h.1.trans (hs.1.below h.2.1 h.2.2), Nat.le_trans h.2.1 hs.1.size, fun k hk => (hs.2 k hk).elim (h.2.2 k) (fun e => Nat.le_trans h.2.1 e)⟩
theorem Lv.still {B : Nat} {w0 a b : World} {S : Nat → Prop} (h : Lv B w0 S a) (ht : Turn (fun _ => False) a b) : Lv B w0 S b := h.step (Stp.quiet ht)
theorem far_step {S S' : Nat → Prop} {a b : World} {g t : Nat} {cs : List Value} (h : Stp S a S' b) (hb : Blk a g t cs) (hn : ¬ S g) : Blk b g t cs ∧ ¬ S' g :=
  ⟨hb.turn h.1 hn, fun hk => (h.2 g hk).elim hn (fun e => by have := hb.lt; omega)⟩
theorem far_still {S : Nat → Prop} {a b : World} {g t : Nat} {cs : List Value} (h : Turn (fun _ => False) a b) (hb : Blk a g t cs) (hn : ¬ S g) : Blk b g t cs ∧ ¬ S g := ⟨hb.turn h (fun h => h), hn⟩
theorem by_mark {S : Nat → Prop} (w : World) (hS : ∀ k, S k → k < w.heap.size) (l : List UInt8) (n : Nat) (C : Array Value) (fr : Nat × Nat) (hC : C = (bv l).toArray) (hn : l.length = n) :
    By S (w.alloc (.cells C 5 fr)) (.slice (some ⟨w.heap.size, 0, none⟩) n n) l := by
  subst hn hC
  refine ⟨_, _, rfl, fun _ => ⟨_, rfl, by simp, fun h => absurd (hS _ h) (by simp), fun j c hj => ?_⟩⟩
  rw [Addr.add_mid, Nat.zero_add, World.cell?_alloc_mark]
  rw [List.getElem?_toArray, bv_at, hj]; rfl
theorem iv_new {S : Nat → Prop} (w : World) (hS : ∀ k, S k → k < w.heap.size) (zs : List Int) (n : Nat) (C : Array Value) (hC : C = (zs.map (Value.int .i64)).toArray) (hn : zs.length = n) :
    Iv S (w.alloc (.cells C 3)) (.slice (some ⟨w.heap.size, 0, none⟩) n n) zs := by
  subst hn hC
  refine ⟨_, _, rfl, fun _ => ⟨_, _, rfl, by simp, fun h => absurd (hS _ h) (by simp), fun j z hj => ?_⟩⟩
  have := (Blk.new w 3 (zs.map (Value.int .i64))).cell j
  rw [Nat.zero_add]
  refine this.trans ?_
  rw [List.getElem?_map, hj]; rfl
theorem iv_nil (S : Nat → Prop) (w : World) : Iv S w (.slice none 0 0) [] := ⟨_, _, rfl, fun h => absurd h (by simp)⟩
def tA : List UInt8 := full [97]
def tB : List UInt8 := full [98]
def tC : List UInt8 := full [99]
def tQ : List UInt8 := full [113]
def L0 : Dsk := fresh 2
def L1 : Dsk := { kept := [zeros, zeros], pend := [(0, tA)], fuse := -1, dead := false }
def L2 : Dsk := { kept := [zeros, zeros], pend := [(0, tA), (0, tB)], fuse := -1, dead := false }
def L3 : Dsk := { kept := [zeros, zeros], pend := [(0, tA), (0, tB), (1, tC)], fuse := -1, dead := false }
def L4 : Dsk := { kept := [tA, tC], pend := [], fuse := -1, dead := false }
def L5 : Dsk := { kept := [tA, tC], pend := [], fuse := 1, dead := false }
def L6 : Dsk := { kept := [tA, tC], pend := [(1, tQ)], fuse := 0, dead := false }
def L7 : Dsk := { kept := [tA, tC], pend := [(1, tQ)], fuse := 0, dead := true }
theorem L_1 : L0.write 0 [97] = (L1, 0) := rfl
theorem L_2 : L1.write 0 [98] = (L2, 0) := rfl
theorem L_3 : L2.write 1 [99] = (L3, 0) := rfl
theorem L_4 : L3.crashed [0, 2] = L4 := rfl
theorem L_5 : L4.arm 1 = (L5, 0) := rfl
theorem L_6 : L5.write 1 [113] = (L6, 0) := rfl
theorem L_7 : L6.flush = (L7, 20) := rfl
theorem L_8 : L7.crashed [] = L4 := rfl
theorem R_3 : L3.has 0 = tB := rfl
theorem R_40 : L4.has 0 = tA := rfl
theorem R_41 : L4.has 1 = tC := rfl
end Go.Proofs.Ythhmodbggngelaa
/- Layer 4: Copy. -/
namespace Go.Proofs.Ythhmodbggngelaa
open Go.RowKit Go.Maps
set_option linter.unusedVariables false

theorem own_zero_ {w : World} {B t s n : Nat} {v : Value} {xs : List Value} (h : w.ownsRow B t s v n xs) : w.ownsRow 0 t s v n xs := by
  obtain ⟨hx, h | ⟨g, c, cur, e, hB, hr⟩⟩ := h
  · exact ⟨hx, .inl h⟩
  · exact ⟨hx, .inr ⟨g, c, cur, e, Nat.zero_le _, hr⟩⟩
theorem own_lt_ {w : World} {B t s n : Nat} {v : Value} {xs : List Value} (h : w.ownsRow B t s v n xs) : ∀ k, v.ownBlock = some k → k < w.heap.size := by
  obtain ⟨_, ⟨rfl, _⟩ | ⟨g, c, cur, rfl, hB, hh, _⟩⟩ := h
  · intro k hk; simp [Value.ownBlock] at hk
  · intro k hk
    simp [Value.ownBlock] at hk
    subst hk
    exact (Array.getElem?_eq_some_iff.1 hh).1
theorem own_ge_ {w : World} {B t s n : Nat} {v : Value} {xs : List Value} (h : w.ownsRow B t s v n xs) : ∀ k, v.ownBlock = some k → B ≤ k := by
  obtain ⟨_, ⟨rfl, _⟩ | ⟨g, c, cur, rfl, hB, hh, _⟩⟩ := h
  · intro k hk; simp [Value.ownBlock] at hk
  · intro k hk
    simp [Value.ownBlock] at hk
    subst hk
    exact hB
theorem Nw.lt {w : World} {g n : Nat} {l : List (Nat × List UInt8)} (h : Nw w g n l) : g < w.heap.size := by
  obtain ⟨es, clock, hb, _⟩ := h
  exact (Array.getElem?_eq_some_iff.1 hb).1
set_option maxRecDepth 100000 in
set_option maxHeartbeats 4000000 in
theorem copy_dq {S : Nat → Prop} {w : World} {p : Nat} {D : Dsk} (h : Dq S w p D) (hp : D.pend.length ≤ 1000000000) :
    Calls Try.prog 20 #[.pointer (some ⟨p, 0, none⟩)] w fun e w' => ∃ p' S', e = .returned (.pointer (some ⟨p', 0, none⟩)) ∧ Dq S' w' p' D ∧ (∀ k, S' k → w.heap.size ≤ k) ∧ Turn (fun _ => False) w w' := by
  obtain ⟨ok, gk, gm, vP, hm, rfl⟩ := h
  have HC := Lib.hid (made_any p _ _ _ w hm.cells.choose_spec.1)
  rw [show decide (0 < D.kept.length) = true from by simpa using ok.pos] at HC
  have H := Lib.hid hm
  have OK := Lib.hid ok
  obtain ⟨ck, hck⟩ := hm.blk
  have HBK := Lib.hid hck
  have SC : Hid (∀ W, Turn (fun _ => False) w W → W.cell? ⟨p, 0, none⟩ = some (.slice (some ⟨gk, 0, none⟩) D.kept.length ck) ∧ W.cell? ⟨p, 1, none⟩ = some vP ∧ W.cell? ⟨p, 2, none⟩ = some (.map (some gm)) ∧ W.cell? ⟨p, 3, none⟩ = some (.int .i64 D.fuse) ∧ W.cell? ⟨p, 4, none⟩ = some (.bool D.dead)) :=
    Lib.hid (fun W ht => by
      have hb := HBK.out.turn ht (fun h => h)
      exact ⟨hb.cell 0, hb.cell 1, hb.cell 2, hb.cell 3, hb.cell 4⟩)
  have CS : Hid (∀ W, Turn (fun _ => False) w W → Calls Try.prog 34 #[.slice (some ⟨gk, 0, none⟩) D.kept.length ck] W fun e w' => ∃ v, e = .returned v ∧ ∃ g' c' r, v = .slice (some ⟨g', 0, none⟩) D.kept.length c' ∧ Blk w' g' 64 (D.kept.flatMap bv ++ r) ∧ W.heap.size ≤ g' ∧ Turn (fun _ => False) W w') :=
    Lib.hid (fun W ht => by
      have h2 := H.out.turn ht (fun _ _ h => h)
      obtain ⟨r, hr⟩ := h2.kept
      refine (clone_sectors gk D.kept.length ck (D.kept.flatMap bv) W OK.out.pos OK.out.most (len_flat bv 128 _ OK.out.lenk) (fun u hu => ?_) (hr.range 0 _ (fun j v hv => ?_))).mono ?_
      · obtain ⟨x, _, hx⟩ := List.mem_flatMap.1 hu; exact bv_one x u hx
      · rw [Nat.zero_add, List.getElem?_append_left (List.getElem?_eq_some_iff.1 hv).1]; exact hv
      · rintro e w' ⟨g', c', r', he, h3, h4, h5⟩
        exact ⟨_, he, g', c', r', rfl, h3, h4, h5⟩)
  have CW : Hid (∀ W, Turn (fun _ => False) w W → Calls Try.prog 35 #[vP] W fun e w' => ∃ v, e = .returned v ∧ ∃ o c', v = .slice o D.pend.length c' ∧ (w'.ownsRow W.heap.size 66 129 (.slice o D.pend.length c') D.pend.length (D.pend.flatMap wv) ∧ Turn (fun _ => False) W w')) :=
    Lib.hid (fun W ht => by
      have h2 := H.out.turn ht (fun _ _ h => h)
      refine (clone_writes vP D.pend.length hp (D.pend.flatMap wv) W (fun u hu => ?_) h2.pend).mono ?_
      · obtain ⟨x, _, hx⟩ := List.mem_flatMap.1 hu; exact one_wv x u hx
      · rintro e w' ⟨v', he, ho, ht'⟩
        obtain ⟨hl, ⟨rfl, h0⟩ | ⟨g, c, cur, rfl, hB⟩⟩ := ho
        · exact ⟨_, he, none, 0, by rw [h0], by rw [h0] at hl ⊢; exact ⟨hl, .inl ⟨rfl, rfl⟩⟩, ht'⟩
        · exact ⟨_, he, _, _, rfl, ⟨hl, .inr ⟨g, c, cur, rfl, hB⟩⟩, ht'⟩)
  have CM : Hid (∀ W, Turn (fun _ => False) w W → Calls Try.prog 36 #[.map (some gm)] W fun e w' => ∃ v, e = .returned v ∧ (v = .map (some W.heap.size) ∧ Nw w' W.heap.size D.pend.length D.pend ∧ Turn (fun _ => False) W w')) :=
    Lib.hid (fun W ht => (clone_map gm _ _ W (H.out.turn ht (fun _ _ h => h)).nw).mono (fun e w' hh => ⟨_, hh.1, rfl, hh.2⟩))
  clear hm hck
  go_enter Try.func20, Try.ntmps20
  go_wp2_with (go_at_call 29; refine HC.out.mono ?_; rintro e w' ⟨rfl, rfl⟩)
  have T0 : Hid (Turn (fun _ => False) w w.drew) := Lib.hid ((Turn.refl _ _).drew)
  go_region_held3 (fun w' => w'.cell? ⟨p, 0, none⟩ = some (.slice (some ⟨gk, 0, none⟩) D.kept.length ck) ∧ w'.cell? ⟨p, 1, none⟩ = some vP ∧ w'.cell? ⟨p, 2, none⟩ = some (.map (some gm)) ∧ w'.cell? ⟨p, 3, none⟩ = some (.int .i64 D.fuse) ∧ w'.cell? ⟨p, 4, none⟩ = some (.bool D.dead))
    (first
      | exact SC.out _ T0.out
      | exact SC.out _ T5.out
      | exact SC.out _ T6.out
      | exact SC.out _ T7.out
      | exact SC.out _ (T7.out.alloc _))
    (first
      | (refine step_call rfl 34 Try.f34 _ _ rfl Try.func34 (by kernel_rfl) (by kernel_rfl) _ _ (CS.out _ T0.out) (by go_simp) ?_; rintro v5 w5 ⟨g', c', r', rfl, hb5, hg5, ht5⟩; have B5 := Lib.hid hb5; have G5 := Lib.hid hg5; have T5 := Lib.hid (T0.out.trans ht5); clear hb5 hg5 ht5)
      | (refine step_call rfl 35 Try.f35 _ _ rfl Try.func35 (by kernel_rfl) (by kernel_rfl) _ _ (CW.out _ T5.out) (by go_simp) ?_; rintro v6 w6 ⟨o6, c6, rfl, ho6, ht6⟩; have O6 := Lib.hid ho6; have X6 := Lib.hid ht6; have T6 := Lib.hid (T5.out.trans ht6); clear ho6 ht6)
      | (refine step_call rfl 36 Try.f36 _ _ rfl Try.func36 (by kernel_rfl) (by kernel_rfl) _ _ (CM.out _ T6.out) (by go_simp) ?_; rintro v7 w7 ⟨rfl, hn7, ht7⟩; have N7 := Lib.hid hn7; have X7 := Lib.hid ht7; have T7 := Lib.hid (T6.out.trans ht7); clear hn7 ht7))
  have O7 := Lib.hid (ownsRow_turn O6.out X7.out (fun _ _ h => h))
  have V6 := Lib.hid (own_lt_ O6.out)
  have V6' := Lib.hid (own_ge_ O6.out)
  have B7 := Lib.hid ((B5.out.turn X6.out (fun h => h)).turn X7.out (fun h => h))
  have g5 := B5.out.lt
  have g6 : w6.heap.size < w7.heap.size := N7.out.lt
  have s5 := T5.out.size
  have s6 := X6.out.size
  have s0 : w.heap.size ≤ g' := G5.out
  have HT := Lib.hid (T7.out.alloc (.cells #[Value.slice (some ⟨g', 0, none⟩) D.kept.length c', Value.slice o6 D.pend.length c6, Value.map (some w6.heap.size), Value.int IntKind.i64 D.fuse, Value.bool D.dead] 51))
  have HP := Lib.hid (Blk.new w7 51 [Value.slice (some ⟨g', 0, none⟩) D.kept.length c', Value.slice o6 D.pend.length c6, Value.map (some w6.heap.size), Value.int IntKind.i64 D.fuse, Value.bool D.dead])
  have t1 : Turn (fun _ => False) w7 (w7.alloc (.cells #[Value.slice (some ⟨g', 0, none⟩) D.kept.length c', Value.slice o6 D.pend.length c6, Value.map (some w6.heap.size), Value.int IntKind.i64 D.fuse, Value.bool D.dead] 51)) := (Turn.refl _ _).alloc _
  have HK := Lib.hid (B7.out.turn t1 (fun h => h))
  have HO := Lib.hid (ownsRow_turn (own_zero_ O7.out) t1 (fun _ _ h => h))
  have HN := Lib.hid (N7.out.turn t1 (fun h => h))
  clear t1
  rename_i hHeld
  clear hHeld
  go_wp2
  go_ret
  refine ⟨_, _, rfl, ⟨OK.out, g', w6.heap.size, .slice o6 D.pend.length c6, ⟨⟨c', HP.out⟩, ⟨r', HK.out⟩, HO.out, HN.out, by omega, by omega, by omega, fun e => by have := V6.out _ e; omega, fun e => by have := V6'.out _ e; omega, fun e => by have := V6.out _ e; omega⟩, rfl⟩, ?_, HT.out⟩
  intro k hk
  rcases hk with rfl | rfl | rfl | hk
  · omega
  · omega
  · omega
  · have := V6'.out _ hk; omega
end Go.Proofs.Ythhmodbggngelaa
