/- Layer 4: a disk's calls that turn its own block alone, and New. -/
import Derived.Test.YtmedljnbcpdoeaaDoorBlkB
namespace Go.Proofs.YtmedljnbcpdoeaaDoor
open Go.RowKit Go.Maps
set_option linter.unusedVariables false

def Dsk.burnt (D : Dsk) : Dsk := if D.fuse = 0 then { D with dead := true } else if 0 < D.fuse then { D with fuse := D.fuse - 1 } else D
def Dsk.lost (D : Dsk) : Dsk := { D with pend := [] }
theorem turn_p {w : World} (p i : Nat) (v : Value) : Turn (· = p) w (w.setCell ⟨p, i, none⟩ v) := (Turn.refl (· = p) w).setCell (p := ⟨p, i, none⟩) (.inl rfl) v
theorem DkM.own_p {w : World} {p gk gm : Nat} {vP : Value} {D : Dsk} (h : DkM w p D gk gm vP) {S : Nat → Prop} {w' : World} (ht : Turn (· = p) w w') : (∃ r, Blk w' gk 97 (D.kept.flatMap bv ++ r)) ∧ w'.ownsRow 0 99 129 vP D.pend.length (D.pend.flatMap wv) ∧ Nw w' gm D.pend.length D.pend :=
  ⟨h.kept.elim fun r hb => ⟨r, hb.turn ht (fun e => h.pk e.symm)⟩, ownsRow_turn h.pend ht (fun k hk e => h.vp (e ▸ hk)), h.nw.turn ht (fun e => h.pm e.symm)⟩
/-- The fuse is set. -/
theorem DkM.setFuse {w : World} {p gk gm : Nat} {vP : Value} {D : Dsk} (h : DkM w p D gk gm vP) (n : Int) : DkM (w.setCell ⟨p, 3, none⟩ (.int .i64 n)) p { D with fuse := n } gk gm vP := by
  obtain ⟨h1, h2, h3⟩ := h.own_p (S := fun _ => True) (turn_p p 3 (.int .i64 n))
  exact ⟨h.blk.elim fun ck hb => ⟨ck, hb.put 3 _⟩, h1, h2, h3, h.pk, h.pm, h.km, h.vp, h.vk, h.vm⟩
theorem DkM.setDead {w : World} {p gk gm : Nat} {vP : Value} {D : Dsk} (h : DkM w p D gk gm vP) (b : Bool) : DkM (w.setCell ⟨p, 4, none⟩ (.bool b)) p { D with dead := b } gk gm vP := by
  obtain ⟨h1, h2, h3⟩ := h.own_p (S := fun _ => True) (turn_p p 4 (.bool b))
  exact ⟨h.blk.elim fun ck hb => ⟨ck, hb.put 4 _⟩, h1, h2, h3, h.pk, h.pm, h.km, h.vp, h.vk, h.vm⟩
theorem Dsk.Ok.burnt {D : Dsk} (h : D.Ok) : D.burnt.Ok := by
  unfold Dsk.burnt
  split
  · exact ⟨h.pos, h.most, h.kept, h.pend, h.fuse⟩
  · split
    · exact ⟨h.pos, h.most, h.kept, h.pend, by have := h.fuse; simp only; omega⟩
    · exact h
theorem burn_ok {p gk gm : Nat} {vP : Value} {D : Dsk} (ok : D.Ok) (w : World) (h : DkM w p D gk gm vP) :
    Calls Tryd.prog 73 #[.pointer (some ⟨p, 0, none⟩)] w fun e w' => e = .returned (.int .i64 (if D.fuse = 0 then 20 else 0)) ∧ DkM w' p D.burnt gk gm vP ∧ Turn (· = p) w w' := by
  have H := Lib.hid h
  obtain ⟨ck, c0, c1, c2, c3, c4, f1, f2, f3, f4⟩ := h.cells
  clear h
  have hw := wrap_of (D.fuse - 1) (by have := ok.fuse; omega) (by have := ok.fuse; omega)
  have hf := ok.fuse
  have e1 : D.burnt = if D.fuse = 0 then { D with dead := true } else if 0 < D.fuse then { D with fuse := D.fuse - 1 } else D := rfl
  rcases Int.lt_trichotomy D.fuse 0 with hlt | heq | hgt
  · rw [if_neg (by omega), if_neg (by omega)] at e1
    have n0 : ¬ D.fuse = 0 := by omega
    have HE := Lib.hid e1
    clear e1
    rw [if_neg n0]
    go_enter Tryd.func73, Tryd.ntmps73
    go_wp2
    go_ret
    exact ⟨rfl, by rw [HE.out]; exact H.out, Turn.refl _ _⟩
  · rw [if_pos heq] at e1
    have HE := Lib.hid e1
    have HQ := Lib.hid heq
    clear e1
    rw [if_pos heq]
    rw [heq] at c3 hw hf
    clear heq
    go_enter Tryd.func73, Tryd.ntmps73
    go_wp2
    go_ret
    exact ⟨rfl, by rw [HE.out]; exact H.out.setDead true, turn_p _ _ _⟩
  · rw [if_neg (by omega), if_pos hgt] at e1
    have n0 : ¬ D.fuse = 0 := by omega
    have HE := Lib.hid e1
    clear e1
    rw [if_neg n0]
    go_enter Tryd.func73, Tryd.ntmps73
    go_wp2
    go_ret
    exact ⟨rfl, by rw [HE.out]; exact H.out.setFuse _, turn_p _ _ _⟩
theorem lost_mem {p gk gm : Nat} {vP : Value} {D : Dsk} {w : World} (h : DkM w p D gk gm vP) :
    DkM (((w.setCell ⟨p, 1, none⟩ (.slice none 0 0)).setCell ⟨p, 2, none⟩ (.map (some w.heap.size))).alloc (.map #[] 0)) p D.lost gk w.heap.size (.slice none 0 0) ∧ Turn (· = p) w (((w.setCell ⟨p, 1, none⟩ (.slice none 0 0)).setCell ⟨p, 2, none⟩ (.map (some w.heap.size))).alloc (.map #[] 0)) := by
  have t1 := (((Turn.refl (· = p) w).setCell (p := ⟨p, 1, none⟩) (.inl rfl) (.slice none 0 0)).setCell (p := ⟨p, 2, none⟩) (.inl rfl) (.map (some w.heap.size))).alloc (.map #[] 0)
  refine ⟨⟨h.blk.elim fun ck hb => ⟨ck, ((hb.put 1 _).put 2 _).alloc _⟩, ?_, ⟨rfl, .inl ⟨rfl, rfl⟩⟩, ?_, h.pk, Nat.ne_of_lt h.plt, Nat.ne_of_lt h.klt, by simp [Value.ownBlock], by simp [Value.ownBlock], by simp [Value.ownBlock]⟩, t1⟩
  · exact h.kept.elim fun r hb => ⟨r, hb.turn t1 (fun e => h.pk e.symm)⟩
  · have := World.ownsMap_made (H := Unit) ((w.setCell ⟨p, 1, none⟩ (.slice none 0 0)).setCell ⟨p, 2, none⟩ (.map (some w.heap.size))) Tryd.prog 3 (plainElem Tryd.prog 3)
    rw [show ((w.setCell ⟨p, 1, none⟩ (.slice none 0 0)).setCell ⟨p, 2, none⟩ (.map (some w.heap.size))).heap.size = w.heap.size from by simp] at this
    exact this
theorem forget_ok {p gk gm : Nat} {vP : Value} {D : Dsk} (w : World) (h : DkM w p D gk gm vP) :
    Calls Tryd.prog 32 #[.pointer (some ⟨p, 0, none⟩)] w fun e w' => e = .returned (.tuple #[]) ∧ DkM w' p D.lost gk w.heap.size (.slice none 0 0) ∧ Turn (· = p) w w' := by
  have hmm := @run_makeMap Tryd.prog
  have H := Lib.hid h
  obtain ⟨ck, c0, c1, c2, c3, c4, f1, f2, f3, f4⟩ := h.cells
  have hlt := h.plt
  have hne : p ≠ w.heap.size := Nat.ne_of_lt hlt
  clear h
  go_enter Tryd.func32, Tryd.ntmps32
  go_wp2
  go_end0
  exact ⟨rfl, lost_mem H.out⟩
/-- Arm of a disk that is not dead. -/
theorem arm_mem {p gk gm : Nat} {vP : Value} {D : Dsk} (ok : D.Ok) (n : Int) (hn : n ≤ 9223372036854775807) : ({ D with fuse := max n (-1) } : Dsk).Ok := ⟨ok.pos, ok.most, ok.kept, ok.pend, by simp only; omega⟩
theorem arm_ok {p gk gm : Nat} {vP : Value} {D : Dsk} (ok : D.Ok) (n : Int) (w : World) (h : DkM w p D gk gm vP) :
    Calls Tryd.prog 23 #[.pointer (some ⟨p, 0, none⟩), .int .i64 n] w fun e w' => e = .returned (.int .i64 (if D.dead then 20 else 0)) ∧ DkM w' p (if D.dead then D else { D with fuse := max n (-1) }) gk gm vP ∧ Turn (· = p) w w' := by
  have H := Lib.hid h
  have HC := Lib.hid (check_ok ok w h)
  obtain ⟨ck, c0, c1, c2, c3, c4, f1, f2, f3, f4⟩ := h.cells
  clear h
  obtain ⟨K, Pn, F, dd⟩ := D
  dsimp only at *
  have e0 : n < -1 → max n (-1) = -1 := fun h => by omega
  have e1 : -1 ≤ n → max n (-1) = n := fun h => by omega
  cases dd
  all_goals simp only [if_true, Bool.false_eq_true, if_false] at *
  all_goals go_enter Tryd.func23, Tryd.ntmps23
  all_goals go_wp2_with (go_at_call 52; refine HC.out.mono ?_; rintro e w' ⟨rfl, rfl⟩)
  all_goals go_ret
  all_goals first | exact ⟨rfl, H.out, Turn.refl _ _⟩ | (refine ⟨rfl, ?_, turn_p _ _ _⟩; first | exact H.out.setFuse _ | (rw [e1 (by omega)]; exact H.out.setFuse _) | (rw [e0 (by omega)]; exact H.out.setFuse _))
theorem new_bad (n : Int) (hn : n < 1 ∨ 16384 < n) (w : World) :
    Calls Tryd.prog 6 #[.int .i64 n] w fun e w' => e = .returned (.tuple #[.pointer none, .int .i64 2]) ∧ w = w' := by
  go_enter Tryd.func6, Tryd.ntmps6
  go_wp2
  all_goals go_ret2
  all_goals first | exact ⟨rfl, rfl⟩ | (exfalso; simp at *; omega)
end Go.Proofs.YtmedljnbcpdoeaaDoor
