/- Layer 4: Copy. -/
import Derived.Test.YtbjenimpfblojaaBlkK
import Derived.Test.YtbjenimpfblojaaBlkO
import Derived.Deep.RegionHeld3
namespace Go.Proofs.Ytbjenimpfblojaa
open Go.RowKit Go.Maps
set_option linter.unusedVariables false

theorem own_zero_ {w : World} {B t s n : Nat} {v : Value} {xs : List Value} (h : w.ownsRow B t s v n xs) : w.ownsRow 0 t s v n xs := by
  obtain ⟨hx, h | ⟨g, c, cur, e, hB, hr⟩⟩ := h
  · exact ⟨hx, .inl h⟩
  · exact ⟨hx, .inr ⟨g, c, cur, e, Nat.zero_le _, hr⟩⟩
theorem own_lt_ {w : World} {B t s n : Nat} {v : Value} {xs : List Value} (h : w.ownsRow B t s v n xs) : ∀ k, v.ownBlock = some k → k < w.heap.size := by
  obtain ⟨_, ⟨rfl, _⟩ | ⟨g, c, cur, rfl, hB, hh, _⟩⟩ := h
  · intro k hk; simp [Value.ownBlock] at hk
  · intro k hk
    simp [Value.ownBlock] at hk
    subst hk
    exact (Array.getElem?_eq_some_iff.1 hh).1
theorem own_ge_ {w : World} {B t s n : Nat} {v : Value} {xs : List Value} (h : w.ownsRow B t s v n xs) : ∀ k, v.ownBlock = some k → B ≤ k := by
  obtain ⟨_, ⟨rfl, _⟩ | ⟨g, c, cur, rfl, hB, hh, _⟩⟩ := h
  · intro k hk; simp [Value.ownBlock] at hk
  · intro k hk
    simp [Value.ownBlock] at hk
    subst hk
    exact hB
theorem Nw.lt {w : World} {g n : Nat} {l : List (Nat × List UInt8)} (h : Nw w g n l) : g < w.heap.size := by
  obtain ⟨es, clock, hb, _⟩ := h
  exact (Array.getElem?_eq_some_iff.1 hb).1
set_option maxRecDepth 100000 in
set_option maxHeartbeats 4000000 in
theorem copy_dq {S : Nat → Prop} {w : World} {p : Nat} {D : Dsk} (h : Dq S w p D) (hp : D.pend.length ≤ 1000000000) :
    Calls Try.prog 39 #[.pointer (some ⟨p, 0, none⟩)] w fun e w' => ∃ p' S', e = .returned (.pointer (some ⟨p', 0, none⟩)) ∧ Dq S' w' p' D ∧ (∀ k, S' k → w.heap.size ≤ k) ∧ Turn (fun _ => False) w w' := by
  obtain ⟨ok, gk, gm, vP, hm, rfl⟩ := h
  have HC := Lib.hid (made_any p _ _ _ w hm.cells.choose_spec.1)
  rw [show decide (0 < D.kept.length) = true from by simpa using ok.pos] at HC
  have H := Lib.hid hm
  have OK := Lib.hid ok
  obtain ⟨ck, hck⟩ := hm.blk
  have HBK := Lib.hid hck
  have SC : Hid (∀ W, Turn (fun _ => False) w W → W.cell? ⟨p, 0, none⟩ = some (.slice (some ⟨gk, 0, none⟩) D.kept.length ck) ∧ W.cell? ⟨p, 1, none⟩ = some vP ∧ W.cell? ⟨p, 2, none⟩ = some (.map (some gm)) ∧ W.cell? ⟨p, 3, none⟩ = some (.int .i64 D.fuse) ∧ W.cell? ⟨p, 4, none⟩ = some (.bool D.dead)) :=
    Lib.hid (fun W ht => by
      have hb := HBK.out.turn ht (fun h => h)
      exact ⟨hb.cell 0, hb.cell 1, hb.cell 2, hb.cell 3, hb.cell 4⟩)
  have CS : Hid (∀ W, Turn (fun _ => False) w W → Calls Try.prog 63 #[.slice (some ⟨gk, 0, none⟩) D.kept.length ck] W fun e w' => ∃ v, e = .returned v ∧ ∃ g' c' r, v = .slice (some ⟨g', 0, none⟩) D.kept.length c' ∧ Blk w' g' 88 (D.kept.flatMap bv ++ r) ∧ W.heap.size ≤ g' ∧ Turn (fun _ => False) W w') :=
    Lib.hid (fun W ht => by
      have h2 := H.out.turn ht (fun _ _ h => h)
      obtain ⟨r, hr⟩ := h2.kept
      refine (clone_sectors gk D.kept.length ck (D.kept.flatMap bv) W OK.out.pos OK.out.most (len_flat bv 128 _ OK.out.lenk) (fun u hu => ?_) (hr.range 0 _ (fun j v hv => ?_))).mono ?_
      · obtain ⟨x, _, hx⟩ := List.mem_flatMap.1 hu; exact bv_one x u hx
      · rw [Nat.zero_add, List.getElem?_append_left (List.getElem?_eq_some_iff.1 hv).1]; exact hv
      · rintro e w' ⟨g', c', r', he, h3, h4, h5⟩
        exact ⟨_, he, g', c', r', rfl, h3, h4, h5⟩)
  have CW : Hid (∀ W, Turn (fun _ => False) w W → Calls Try.prog 64 #[vP] W fun e w' => ∃ v, e = .returned v ∧ ∃ o c', v = .slice o D.pend.length c' ∧ (w'.ownsRow W.heap.size 91 129 (.slice o D.pend.length c') D.pend.length (D.pend.flatMap wv) ∧ Turn (fun _ => False) W w')) :=
    Lib.hid (fun W ht => by
      have h2 := H.out.turn ht (fun _ _ h => h)
      refine (clone_writes vP D.pend.length hp (D.pend.flatMap wv) W (fun u hu => ?_) h2.pend).mono ?_
      · obtain ⟨x, _, hx⟩ := List.mem_flatMap.1 hu; exact one_wv x u hx
      · rintro e w' ⟨v', he, ho, ht'⟩
        obtain ⟨hl, ⟨rfl, h0⟩ | ⟨g, c, cur, rfl, hB⟩⟩ := ho
        · exact ⟨_, he, none, 0, by rw [h0], by rw [h0] at hl ⊢; exact ⟨hl, .inl ⟨rfl, rfl⟩⟩, ht'⟩
        · exact ⟨_, he, _, _, rfl, ⟨hl, .inr ⟨g, c, cur, rfl, hB⟩⟩, ht'⟩)
  have CM : Hid (∀ W, Turn (fun _ => False) w W → Calls Try.prog 65 #[.map (some gm)] W fun e w' => ∃ v, e = .returned v ∧ (v = .map (some W.heap.size) ∧ Nw w' W.heap.size D.pend.length D.pend ∧ Turn (fun _ => False) W w')) :=
    Lib.hid (fun W ht => (clone_map gm _ _ W (H.out.turn ht (fun _ _ h => h)).nw).mono (fun e w' hh => ⟨_, hh.1, rfl, hh.2⟩))
  clear hm hck
  go_enter Try.func39, Try.ntmps39
  go_wp2_with (go_at_call 41; refine HC.out.mono ?_; rintro e w' ⟨rfl, rfl⟩)
  have T0 : Hid (Turn (fun _ => False) w w.drew) := Lib.hid ((Turn.refl _ _).drew)
  go_region_held3 (fun w' => w'.cell? ⟨p, 0, none⟩ = some (.slice (some ⟨gk, 0, none⟩) D.kept.length ck) ∧ w'.cell? ⟨p, 1, none⟩ = some vP ∧ w'.cell? ⟨p, 2, none⟩ = some (.map (some gm)) ∧ w'.cell? ⟨p, 3, none⟩ = some (.int .i64 D.fuse) ∧ w'.cell? ⟨p, 4, none⟩ = some (.bool D.dead))
    (first
      | exact SC.out _ T0.out
      | exact SC.out _ T5.out
      | exact SC.out _ T6.out
      | exact SC.out _ T7.out
      | exact SC.out _ (T7.out.alloc _))
    (first
      | (refine step_call rfl 63 Try.f63 _ _ rfl Try.func63 (by kernel_rfl) (by kernel_rfl) _ _ (CS.out _ T0.out) (by go_simp) ?_; rintro v5 w5 ⟨g', c', r', rfl, hb5, hg5, ht5⟩; have B5 := Lib.hid hb5; have G5 := Lib.hid hg5; have T5 := Lib.hid (T0.out.trans ht5); clear hb5 hg5 ht5)
      | (refine step_call rfl 64 Try.f64 _ _ rfl Try.func64 (by kernel_rfl) (by kernel_rfl) _ _ (CW.out _ T5.out) (by go_simp) ?_; rintro v6 w6 ⟨o6, c6, rfl, ho6, ht6⟩; have O6 := Lib.hid ho6; have X6 := Lib.hid ht6; have T6 := Lib.hid (T5.out.trans ht6); clear ho6 ht6)
      | (refine step_call rfl 65 Try.f65 _ _ rfl Try.func65 (by kernel_rfl) (by kernel_rfl) _ _ (CM.out _ T6.out) (by go_simp) ?_; rintro v7 w7 ⟨rfl, hn7, ht7⟩; have N7 := Lib.hid hn7; have X7 := Lib.hid ht7; have T7 := Lib.hid (T6.out.trans ht7); clear hn7 ht7))
  have O7 := Lib.hid (ownsRow_turn O6.out X7.out (fun _ _ h => h))
  have V6 := Lib.hid (own_lt_ O6.out)
  have V6' := Lib.hid (own_ge_ O6.out)
  have B7 := Lib.hid ((B5.out.turn X6.out (fun h => h)).turn X7.out (fun h => h))
  have g5 := B5.out.lt
  have g6 : w6.heap.size < w7.heap.size := N7.out.lt
  have s5 := T5.out.size
  have s6 := X6.out.size
  have s0 : w.heap.size ≤ g' := G5.out
  have HT := Lib.hid (T7.out.alloc (.cells #[Value.slice (some ⟨g', 0, none⟩) D.kept.length c', Value.slice o6 D.pend.length c6, Value.map (some w6.heap.size), Value.int IntKind.i64 D.fuse, Value.bool D.dead] 78))
  have HP := Lib.hid (Blk.new w7 78 [Value.slice (some ⟨g', 0, none⟩) D.kept.length c', Value.slice o6 D.pend.length c6, Value.map (some w6.heap.size), Value.int IntKind.i64 D.fuse, Value.bool D.dead])
  have t1 : Turn (fun _ => False) w7 (w7.alloc (.cells #[Value.slice (some ⟨g', 0, none⟩) D.kept.length c', Value.slice o6 D.pend.length c6, Value.map (some w6.heap.size), Value.int IntKind.i64 D.fuse, Value.bool D.dead] 78)) := (Turn.refl _ _).alloc _
  have HK := Lib.hid (B7.out.turn t1 (fun h => h))
  have HO := Lib.hid (ownsRow_turn (own_zero_ O7.out) t1 (fun _ _ h => h))
  have HN := Lib.hid (N7.out.turn t1 (fun h => h))
  clear t1
  rename_i hHeld
  clear hHeld
  go_wp2
  go_ret
  refine ⟨_, _, rfl, ⟨OK.out, g', w6.heap.size, .slice o6 D.pend.length c6, ⟨⟨c', HP.out⟩, ⟨r', HK.out⟩, HO.out, HN.out, by omega, by omega, by omega, fun e => by have := V6.out _ e; omega, fun e => by have := V6'.out _ e; omega, fun e => by have := V6.out _ e; omega⟩, rfl⟩, ?_, HT.out⟩
  intro k hk
  rcases hk with rfl | rfl | rfl | hk
  · omega
  · omega
  · omega
  · have := V6'.out _ hk; omega
end Go.Proofs.Ytbjenimpfblojaa
