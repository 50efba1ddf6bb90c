/- Layer 4: Flush. -/
import Derived.Test.YtcjoinahelmmpaaBlkH
namespace Go.Proofs.Ytcjoinahelmmpaa
open Go.RowKit Go.Maps
set_option linter.unusedVariables false

def Dsk.keepAll (D : Dsk) (l : List (Nat × List UInt8)) : Dsk := l.foldl Dsk.keepW D
theorem keepAll_snoc (D : Dsk) (l : List (Nat × List UInt8)) (x : Nat × List UInt8) : D.keepAll (l ++ [x]) = (D.keepAll l).keepW x := by simp [Dsk.keepAll]
theorem keepAll_nil (D : Dsk) : D.keepAll [] = D := rfl
theorem keepAll_same (l : List (Nat × List UInt8)) : ∀ D : Dsk, (D.keepAll l).pend = D.pend ∧ (D.keepAll l).fuse = D.fuse ∧ (D.keepAll l).dead = D.dead ∧ (D.keepAll l).kept.length = D.kept.length := by
  induction l with
  | nil => intro D; exact ⟨rfl, rfl, rfl, rfl⟩
  | cons x l ih =>
    intro D
    obtain ⟨h1, h2, h3, h4⟩ := ih (D.keepW x)
    refine ⟨h1, h2, h3, h4.trans ?_⟩
    simp [Dsk.keepW]
theorem Dsk.Ok.keepAll {l : List (Nat × List UInt8)} : ∀ {D : Dsk}, D.Ok → (∀ x ∈ l, x.2.length = 128) → (D.keepAll l).Ok := by
  induction l with
  | nil => intro D h _; exact h
  | cons x l ih => intro D h hl; exact ih (h.keepW (hl x (by simp))) (fun y hy => hl y (by simp [hy]))
/-- What a sector that is kept has behind. -/
theorem keepAll_at (l : List (Nat × List UInt8)) : ∀ (D : Dsk) (i : Nat), i < D.kept.length → (D.keepAll l).kept.getD i [] = overw l i (D.kept.getD i []) := by
  induction l with
  | nil => intro D i _; rfl
  | cons x l ih =>
    intro D i hi
    have := ih (D.keepW x) i (by simpa [Dsk.keepW] using hi)
    rw [overw_cons]
    refine Eq.trans this ?_
    congr 1
    simp only [Dsk.keepW, List.getD_eq_getElem?_getD, List.getElem?_set]
    split
    · rename_i e; subst e; rw [if_pos hi]; rfl
    · rfl
theorem Dsk.Ok.lost {D : Dsk} (h : D.Ok) : D.lost.Ok := ⟨h.pos, h.most, h.kept, fun x hx => (by cases hx), h.fuse⟩
def Dsk.flushed (D : Dsk) : Dsk := (D.burnt.keepAll D.pend).lost
theorem flush_err {p gk gm : Nat} {vP : Value} {D : Dsk} (ok : D.Ok) (hd : D.dead = true) (w : World) (h : DkM w p D gk gm vP) :
    Calls Try.prog 66 #[.pointer (some ⟨p, 0, none⟩)] w fun e w' => e = .returned (.int .i64 20) ∧ w = w' := by
  have HC := Lib.hid (check_ok ok w h)
  rw [hd, if_pos rfl] at HC
  clear h
  go_enter Try.func66, Try.ntmps66
  go_wp2_with (go_at_call 50; refine HC.out.mono ?_; rintro e w' ⟨rfl, rfl⟩)
  go_ret
  exact ⟨rfl, rfl⟩
theorem flush_off {p gk gm : Nat} {vP : Value} {D : Dsk} (ok : D.Ok) (hd : D.dead = false) (hf : D.fuse = 0) (w : World) (h : DkM w p D gk gm vP) :
    Calls Try.prog 66 #[.pointer (some ⟨p, 0, none⟩)] w fun e w' => e = .returned (.int .i64 20) ∧ DkM w' p D.burnt gk gm vP ∧ Turn (· = p) w w' := by
  have HC := Lib.hid (check_ok ok w h)
  rw [hd, if_neg (by simp)] at HC
  have HB := Lib.hid (burn_ok ok w h)
  rw [if_pos hf] at HB
  clear h
  go_enter Try.func66, Try.ntmps66
  go_wp2_with (first
    | (go_at_call 50; refine HC.out.mono ?_; rintro e w' ⟨rfl, rfl⟩)
    | (go_at_call 46; refine HB.out.mono ?_; rintro e w' ⟨rfl, h1, h2⟩))
  go_ret
  exact ⟨rfl, h1, h2⟩
theorem take_snoc_ {α : Type} {l : List α} {j : Nat} {x : α} (h : l[j]? = some x) : l.take (j + 1) = l.take j ++ [x] := by
  obtain ⟨hj, e⟩ := List.getElem?_eq_some_iff.1 h
  rw [List.take_succ_eq_append_getElem hj, e]
set_option maxRecDepth 100000 in
set_option maxHeartbeats 4000000 in
theorem flush_ok {p gk gm : Nat} {vP : Value} {D : Dsk} (ok : D.Ok) (hd : D.dead = false) (hf : ¬ D.fuse = 0) (hp : D.pend.length < 1000000000) (w : World) (h : DkM w p D gk gm vP) :
    Calls Try.prog 66 #[.pointer (some ⟨p, 0, none⟩)] w fun e w' => e = .returned (.int .i64 0) ∧ ∃ gm', DkM w' p D.flushed gk gm' (.slice none 0 0) ∧ Turn (Own p gk gm vP) w w' ∧ w.heap.size ≤ gm' := by
  have HC := Lib.hid (check_ok ok w h)
  rw [hd, if_neg (by simp)] at HC
  have HB := Lib.hid (burn_ok ok w h)
  rw [if_neg hf] at HB
  have H := Lib.hid h
  obtain ⟨e1, e2⟩ := burnt_kept D
  have HE2 := Lib.hid e2
  have HE1 := Lib.hid e1
  obtain ⟨A', cap', hv⟩ := h.vform
  subst hv
  obtain ⟨hz1, hz2⟩ := zero_of_info (P := Try.prog) (t := 97) (v := .agg (wv (0, zeros)).toArray) (n := 129) (by kernel_rfl)
  have HZS : Hid ((wv (0, zeros)).toArray.size = 129) := Lib.hid rfl
  obtain ⟨Z, hZ⟩ : ∃ Z, (wv (0, zeros)).toArray = Z := ⟨_, rfl⟩
  rw [hZ] at HZS hz1
  have OK := Lib.hid ok
  have hn0 : (D.pend.length : Int) < 1000000000 := by omega
  clear h hd hf hz2 hZ e1 e2
  go_enter Try.func66, Try.ntmps66
  go_wp2_with (first
    | (go_at_call 50; refine HC.out.mono ?_; rintro e w' ⟨rfl, rfl⟩)
    | (go_at_call 46; refine HB.out.mono ?_; rintro e w2 ⟨rfl, h1, h2⟩; have M2 := Lib.hid h1; have T2 := Lib.hid h2; obtain ⟨ck, c0, c1, c2, c3, c4, f1, f2, f3, f4⟩ := h1.cells; clear h1 h2))
  clear c0 c1 c2 c3 c4 f1 f2 f3 f4
  go_loopw [22] (fun i wr => ∃ j : Nat, j ≤ D.pend.length ∧ i = .int .i64 j ∧ DkM wr p (D.burnt.keepAll (D.pend.take j)) gk gm (.slice A' D.pend.length cap') ∧ Turn (fun k => k = p ∨ k = gk) w wr) (fun i _ => D.pend.length - (intOf i).toNat)
  case atStart => exact ⟨0, Nat.zero_le _, rfl, by rw [List.take_zero]; exact M2.out, T2.out.mono (fun _ _ e => .inl e)⟩
  case round =>
    obtain ⟨j, hj, rfl, hm, ht⟩ := hrel
    have HM := Lib.hid hm
    have HT := Lib.hid ht
    have hsame := keepAll_same (D.pend.take j) D.burnt
    have hpe : (D.burnt.keepAll (D.pend.take j)).pend = D.pend := by rw [hsame.1, HE2.out]
    have OKJ : Hid (D.burnt.keepAll (D.pend.take j)).Ok := Lib.hid (OK.out.burnt.keepAll (fun x hx => (OK.out.pend x (List.mem_of_mem_take hx)).2))
    by_cases hlt : j < D.pend.length
    · obtain ⟨x, hx⟩ : ∃ x, D.pend[j]? = some x := ⟨_, List.getElem?_eq_getElem hlt⟩
      obtain ⟨g, cap, hve, hr⟩ := hm.pend_range OKJ.out (n := j) (x := x) (by rw [hpe]; exact hx)
      rw [hpe] at hve
      injection hve with hve1 hve2 hve3
      subst hve1 hve3
      have HR := Lib.hid hr
      have hx2 : x.2.length = 128 := (OK.out.pend x (List.mem_of_getElem? hx)).2
      have HKP : Hid (∀ w', DkM w' p (D.burnt.keepAll (D.pend.take j)) gk gm (.slice (some ⟨g, 0, none⟩) D.pend.length cap') → Calls Try.prog 49 #[.pointer (some ⟨p, 0, none⟩), .agg (wv x).toArray] w' fun e w'' => e = .returned (.tuple #[]) ∧ DkM w'' p ((D.burnt.keepAll (D.pend.take j)).keepW x) gk gm (.slice (some ⟨g, 0, none⟩) D.pend.length cap') ∧ Turn (· = gk) w' w'') :=
        Lib.hid (fun w' hm' => keep_ok OKJ.out x (by rw [hsame.2.2.2, HE1.out]; exact (OK.out.pend x (List.mem_of_getElem? hx)).1) hx2 w' hm')
      have HN : Hid (D.burnt.keepAll (D.pend.take (j + 1)) = (D.burnt.keepAll (D.pend.take j)).keepW x) := Lib.hid (by rw [take_snoc_ hx, keepAll_snoc])
      have hlw : (wv x).length = 129 := len_wv hx2
      have how := all_oneCell_toArray (one_wv x)
      obtain ⟨X, hX⟩ : ∃ X, wv x = X := ⟨_, rfl⟩
      rw [hX] at hlw how HR HKP
      have HOW := Lib.hid how
      have HI : Hid ((Try.prog.info? 97).map (·.size) = some X.length) := Lib.hid (by rw [info_write, hlw])
      have HI' : Hid ((Try.prog.info? 97).map (·.size) = some X.toArray.size) := Lib.hid (by rw [info_write]; simp [hlw])
      have HS : Hid (Z.size = X.toArray.size) := Lib.hid (by rw [HZS.out]; simp [hlw])
      have HXR : Hid (World.rangeAt (wr.alloc (.cells X.toArray 97)) wr.heap.size 0 X) := Lib.hid ((Blk.new wr 97 X).range 0 X (fun j v hv => by rw [Nat.zero_add]; exact hv))
      have hj0 : (0 : Int) ≤ (j : Int) := Int.natCast_nonneg _
      have hj1 : (j : Int) < (D.pend.length : Int) := by omega
      clear hm ht hsame hpe hr hx hX hlw how hx2 hve2
      go_wp2_with (first
        | (refine wpList_load_mid rfl 97 _ rfl g (j * 129) rfl X _ HR.out Try.underlying97 rfl HI.out ?_)
        | (refine wpList_load_mid rfl 97 _ rfl wr.heap.size 0 rfl X _ HXR.out Try.underlying97 rfl HI.out ?_)
        | (refine wpList_store_new rfl 97 _ _ rfl Z X.toArray rfl rfl HI'.out HS.out HOW.out ?_)
        | (go_at_call 49; refine (HKP.out _ (HM.out.turn (T := fun _ => False) ((Turn.refl _ _).alloc _) (fun _ _ h => h))).mono ?_; rintro e w5 ⟨rfl, h1, h2⟩; have M5 := Lib.hid h1; have T5 := Lib.hid h2; clear h1 h2))
      go_roundw
      case rel => exact ⟨j + 1, by omega, by go_num, by rw [HN.out]; exact M5.out, (HT.out.alloc _).trans_new T5.out (fun k hk e => .inr e)⟩
      case measure => simp [intOf]; omega
    · obtain rfl : j = D.pend.length := by omega
      have HF := Lib.hid (forget_ok wr hm)
      clear hm ht hsame hpe
      go_wp2_with (go_at_call 43; refine HF.out.mono ?_; rintro e w5 ⟨rfl, h1, h2⟩; have M5 := Lib.hid h1; have T5 := Lib.hid h2; clear h1 h2)
      go_ret
      refine ⟨rfl, wr.heap.size, ?_, (HT.out.trans_new T5.out (fun k hk e => .inl e)).mono (fun k _ e => e.elim .inl (fun e => .inr (.inl e))), HT.out.size⟩
      have := M5.out
      rw [List.take_length] at this
      exact this
end Go.Proofs.Ytcjoinahelmmpaa
