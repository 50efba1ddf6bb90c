/- Layer 4: a disk in memory; the small calls of it. -/
import Derived.Test.YtmedljnbcpdoeaaDoorBlkA
namespace Go.Proofs.YtmedljnbcpdoeaaDoor
open Go.RowKit Go.Maps
set_option linter.unusedVariables false

structure DkM (w : World) (p : Nat) (D : Dsk) (gk gm : Nat) (vP : Value) : Prop where
  blk : ∃ ck, Blk w p 73 [.slice (some ⟨gk, 0, none⟩) D.kept.length ck, vP, .map (some gm), .int .i64 D.fuse, .bool D.dead]
  kept : ∃ r, Blk w gk 97 (D.kept.flatMap bv ++ r)
  pend : w.ownsRow 0 99 129 vP D.pend.length (D.pend.flatMap wv)
  nw : Nw w gm D.pend.length D.pend
  pk : p ≠ gk
  pm : p ≠ gm
  km : gk ≠ gm
  vp : vP.ownBlock ≠ some p
  vk : vP.ownBlock ≠ some gk
  vm : vP.ownBlock ≠ some gm
theorem DkM.plt {w : World} {p gk gm : Nat} {vP : Value} {D : Dsk} (h : DkM w p D gk gm vP) : p < w.heap.size := h.blk.elim fun _ h => h.lt
theorem DkM.klt {w : World} {p gk gm : Nat} {vP : Value} {D : Dsk} (h : DkM w p D gk gm vP) : gk < w.heap.size := h.kept.elim fun _ h => h.lt
def Own (p gk gm : Nat) (vP : Value) (k : Nat) : Prop := k = p ∨ k = gk ∨ k = gm ∨ vP.ownBlock = some k
/-- The disk behind pointer p is D, and lies in blocks of S. -/
def Dk (S : Nat → Prop) (w : World) (p : Nat) (D : Dsk) : Prop := D.Ok ∧ ∃ gk gm vP, DkM w p D gk gm vP ∧ ∀ k, Own p gk gm vP k → S k
/-- A step turns no old block but those of S; S' are these, and new ones. -/
def Stp (S : Nat → Prop) (w : World) (S' : Nat → Prop) (w' : World) : Prop := Turn S w w' ∧ ∀ k, S' k → S k ∨ w.heap.size ≤ k
theorem Stp.refl (S : Nat → Prop) (w : World) : Stp S w S w := ⟨Turn.refl _ _, fun _ h => .inl h⟩
theorem Stp.trans {S T R : Nat → Prop} {a b c : World} (h : Stp S a T b) (k : Stp T b R c) : Stp S a R c :=
  ⟨h.1.trans_new k.1 fun j hj ht => (h.2 j ht).elim id fun h => absurd hj (by omega), fun j hj => by
    rcases k.2 j hj with h1 | h1
    · exact h.2 j h1
    · exact .inr (Nat.le_trans h.1.size h1)⟩
theorem Stp.quiet {S : Nat → Prop} {a b : World} (h : Turn (fun _ => False) a b) : Stp S a S b := ⟨h.mono fun _ _ h => h.elim, fun _ h => .inl h⟩
theorem own_lt {w : World} {p gk gm : Nat} {vP : Value} {D : Dsk} (h : DkM w p D gk gm vP) : ∀ k, Own p gk gm vP k → k < w.heap.size := by
  intro k hk
  rcases hk with rfl | rfl | rfl | hk
  · exact h.plt
  · exact h.klt
  · exact World.ownsMap.lt h.nw
  · exact (h.pend.lt k hk).2
theorem ownsRow_turn {w w' : World} {B t s n : Nat} {v : Value} {xs : List Value} {S : Nat → Prop} (h : w.ownsRow B t s v n xs) (hb : Turn S w w') (hs : ∀ k, v.ownBlock = some k → ¬ S k) : w'.ownsRow B t s v n xs := by
  obtain ⟨h1, h2 | ⟨g, cap, cur, rfl, hB, hh, hx⟩⟩ := h
  · exact ⟨h1, .inl h2⟩
  · refine ⟨h1, .inr ⟨g, cap, cur, rfl, hB, ?_, hx⟩⟩
    rw [hb.block g (Array.getElem?_eq_some_iff.1 hh).1 (hs g rfl)]; exact hh
theorem DkM.turn {w w' : World} {p gk gm : Nat} {vP : Value} {D : Dsk} {T : Nat → Prop} (h : DkM w p D gk gm vP) (ht : Turn T w w') (hs : ∀ k, Own p gk gm vP k → ¬ T k) : DkM w' p D gk gm vP :=
  ⟨h.blk.elim fun ck hb => ⟨ck, hb.turn ht (hs p (.inl rfl))⟩, h.kept.elim fun r hb => ⟨r, hb.turn ht (hs gk (.inr (.inl rfl)))⟩, ownsRow_turn h.pend ht (fun k hk => hs k (.inr (.inr (.inr hk)))), h.nw.turn ht (hs gm (.inr (.inr (.inl rfl)))), h.pk, h.pm, h.km, h.vp, h.vk, h.vm⟩
theorem Dk.turn {S T : Nat → Prop} {w w' : World} {p : Nat} {D : Dsk} (h : Dk S w p D) (ht : Turn T w w') (hs : ∀ k, S k → ¬ T k) : Dk S w' p D := by
  obtain ⟨ok, gk, gm, vP, hm, ho⟩ := h
  exact ⟨ok, gk, gm, vP, hm.turn ht fun k hk => hs k (ho k hk), ho⟩
theorem Dk.mono {S T : Nat → Prop} {w : World} {p : Nat} {D : Dsk} (h : Dk S w p D) (hs : ∀ k, k < w.heap.size → S k → T k) : Dk T w p D := by
  obtain ⟨ok, gk, gm, vP, hm, ho⟩ := h
  exact ⟨ok, gk, gm, vP, hm, fun k hk => hs k (own_lt hm k hk) (ho k hk)⟩
theorem Dk.self {S : Nat → Prop} {w : World} {p : Nat} {D : Dsk} (h : Dk S w p D) : S p := by
  obtain ⟨ok, gk, gm, vP, hm, ho⟩ := h
  exact ho p (.inl rfl)
/-- The cells of the disk's own block. -/
theorem DkM.cells {w : World} {p gk gm : Nat} {vP : Value} {D : Dsk} (h : DkM w p D gk gm vP) :
    ∃ ck, w.cell? ⟨p, 0, none⟩ = some (.slice (some ⟨gk, 0, none⟩) D.kept.length ck) ∧ w.cell? ⟨p, 1, none⟩ = some vP ∧ w.cell? ⟨p, 2, none⟩ = some (.map (some gm)) ∧ w.cell? ⟨p, 3, none⟩ = some (.int .i64 D.fuse) ∧ w.cell? ⟨p, 4, none⟩ = some (.bool D.dead) ∧
    w.frozen? ⟨p, 1, none⟩ = false ∧ w.frozen? ⟨p, 2, none⟩ = false ∧ w.frozen? ⟨p, 3, none⟩ = false ∧ w.frozen? ⟨p, 4, none⟩ = false :=
  h.blk.elim fun ck hb => ⟨ck, hb.cell 0, hb.cell 1, hb.cell 2, hb.cell 3, hb.cell 4, hb.free 1, hb.free 2, hb.free 3, hb.free 4⟩
theorem DkM.vform {w : World} {p gk gm : Nat} {vP : Value} {D : Dsk} (h : DkM w p D gk gm vP) : ∃ A cap, vP = .slice A D.pend.length cap := by
  obtain ⟨h1, ⟨h2, h3⟩ | ⟨g, cap, cur, e, _⟩⟩ := h.pend
  · rw [h3, h2]; exact ⟨_, _, rfl⟩
  · exact ⟨_, _, e⟩

theorem made_any (p n c : Nat) (A : Option Addr) (w : World) (h : w.cell? ⟨p, 0, none⟩ = some (.slice A n c)) :
    Calls Tryd.prog 54 #[.pointer (some ⟨p, 0, none⟩)] w fun e w' => e = .returned (.bool (decide (0 < n))) ∧ w = w' := by
  go_enter Tryd.func54, Tryd.ntmps54
  go_wp2
  go_ret
  exact ⟨rfl, rfl⟩
theorem made_nil (w : World) :
    Calls Tryd.prog 54 #[.pointer none] w fun e w' => e = .returned (.bool false) ∧ w = w' := by
  go_enter Tryd.func54, Tryd.ntmps54
  go_wp2
  go_ret
  exact ⟨rfl, rfl⟩
def errIf (D : Dsk) : Int := if D.dead then 20 else 0
theorem check_ok {p gk gm : Nat} {vP : Value} {D : Dsk} (ok : D.Ok) (w : World) (h : DkM w p D gk gm vP) :
    Calls Tryd.prog 52 #[.pointer (some ⟨p, 0, none⟩)] w fun e w' => e = .returned (.int .i64 (if D.dead then 20 else 0)) ∧ w = w' := by
  have hm := Lib.hid (made_any p _ _ _ w h.cells.choose_spec.1)
  obtain ⟨ck, c0, c1, c2, c3, c4, _⟩ := h.cells
  have hp := ok.pos
  rw [show decide (0 < D.kept.length) = true from by simpa using hp] at hm
  clear h
  generalize D.dead = dd at *
  go_enter Tryd.func52, Tryd.ntmps52
  go_wp2_with (go_at_call 54; refine hm.out.mono ?_; rintro e w' ⟨rfl, rfl⟩)
  all_goals go_ret
  all_goals (refine ⟨?_, rfl⟩; cases dd <;> simp_all)
theorem checkSector_ok {p gk gm : Nat} {vP : Value} {D : Dsk} (ok : D.Ok) (i : Int) (w : World) (h : DkM w p D gk gm vP) :
    Calls Tryd.prog 68 #[.pointer (some ⟨p, 0, none⟩), .int .i64 i] w fun e w' => e = .returned (.int .i64 (if D.dead then 20 else if i < 0 ∨ (D.kept.length : Int) ≤ i then 6 else 0)) ∧ w = w' := by
  have hm := Lib.hid (check_ok ok w h)
  obtain ⟨ck, c0, c1, c2, c3, c4, _⟩ := h.cells
  clear h
  generalize D.dead = dd at *
  generalize D.kept.length = n at *
  cases dd
  all_goals go_enter Tryd.func68, Tryd.ntmps68
  all_goals go_wp2_with (go_at_call 52; refine hm.out.mono ?_; rintro e w' ⟨rfl, rfl⟩)
  all_goals go_ret
  all_goals (refine ⟨?_, rfl⟩; first | rfl | (congr 2; simp; omega) | simp_all)
theorem size_ok {p gk gm : Nat} {vP : Value} {D : Dsk} (ok : D.Ok) (w : World) (h : DkM w p D gk gm vP) :
    Calls Tryd.prog 33 #[.pointer (some ⟨p, 0, none⟩)] w fun e w' => e = .returned (.int .i64 D.kept.length) ∧ w = w' := by
  have hm := Lib.hid (made_any p _ _ _ w h.cells.choose_spec.1)
  obtain ⟨ck, c0, c1, c2, c3, c4, _⟩ := h.cells
  have hp := ok.pos
  rw [show decide (0 < D.kept.length) = true from by simpa using hp] at hm
  clear h
  generalize D.kept.length = n at *
  go_enter Tryd.func33, Tryd.ntmps33
  go_wp2_with (go_at_call 54; refine hm.out.mono ?_; rintro e w' ⟨rfl, rfl⟩)
  all_goals go_ret
  all_goals exact ⟨rfl, rfl⟩
theorem pending_ok {p gk gm : Nat} {vP : Value} {D : Dsk} (ok : D.Ok) (w : World) (h : DkM w p D gk gm vP) :
    Calls Tryd.prog 29 #[.pointer (some ⟨p, 0, none⟩)] w fun e w' => e = .returned (.int .i64 D.pend.length) ∧ w = w' := by
  have hm := Lib.hid (made_any p _ _ _ w h.cells.choose_spec.1)
  obtain ⟨A, cap, rfl⟩ := h.vform
  obtain ⟨ck, c0, c1, c2, c3, c4, _⟩ := h.cells
  have hp := ok.pos
  rw [show decide (0 < D.kept.length) = true from by simpa using hp] at hm
  clear h
  generalize D.pend.length = n at *
  go_enter Tryd.func29, Tryd.ntmps29
  go_wp2_with (go_at_call 54; refine hm.out.mono ?_; rintro e w' ⟨rfl, rfl⟩)
  all_goals go_ret
  all_goals exact ⟨rfl, rfl⟩
end Go.Proofs.YtmedljnbcpdoeaaDoor
