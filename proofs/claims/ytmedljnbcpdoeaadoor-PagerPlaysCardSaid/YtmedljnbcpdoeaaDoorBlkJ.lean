/- Layer 4: Crash. -/
import Derived.Test.YtmedljnbcpdoeaaDoorBlkI
namespace Go.Proofs.YtmedljnbcpdoeaaDoor
open Go.RowKit Go.Maps
set_option linter.unusedVariables false

/-- Whole numbers that are read, and lie in no block of S. -/
def Iv (S : Nat → Prop) (w : World) (v : Value) (zs : List Int) : Prop := ∃ A cap, v = .slice A zs.length cap ∧ (0 < zs.length → ∃ b o, A = some ⟨b, o, none⟩ ∧ b < w.heap.size ∧ ¬ S b ∧ ∀ j z, zs[j]? = some z → w.cell? ⟨b, o + j, none⟩ = some (.int .i64 z))
theorem Iv.turn {S T : Nat → Prop} {w w' : World} {v : Value} {zs : List Int} (h : Iv S w v zs) (ht : Turn T w w') (hs : ∀ k, T k → S k) : Iv S w' v zs := by
  obtain ⟨A, cap, e, hr⟩ := h
  refine ⟨A, cap, e, fun hp => ?_⟩
  obtain ⟨b, o, ea, hlt, hn, hc⟩ := hr hp
  refine ⟨b, o, ea, Nat.lt_of_lt_of_le hlt ht.size, hn, fun j z hj => ?_⟩
  rw [World.cell?_of_block (a := ⟨b, o + j, none⟩) (ht.block b hlt (fun h => hn (hs _ h)))]
  exact hc j z hj
def isIn (zs : List Int) (m : Nat) : Bool := zs.contains (m : Int)
def flags (n : Nat) (zs : List Int) : List Value := (List.range n).map (fun m => Value.bool (isIn zs m))
theorem len_flags (n : Nat) (zs : List Int) : (flags n zs).length = n := by simp [flags]
theorem flags_at (n : Nat) (zs : List Int) (m : Nat) (h : m < n) : (flags n zs)[m]? = some (.bool (isIn zs m)) := by simp [flags, h]
theorem flags_nil (n : Nat) : flags n [] = List.replicate n (.bool false) := by
  apply List.ext_getElem?
  intro i
  by_cases h : i < n
  · rw [flags_at n [] i h, List.getElem?_replicate, if_pos h]; rfl
  · rw [List.getElem?_eq_none (by rw [len_flags]; omega), List.getElem?_eq_none (by simp; omega)]
theorem isIn_snoc (zs : List Int) (z : Int) (m : Nat) : isIn (zs ++ [z]) m = (isIn zs m || decide ((m : Int) = z)) := by
  unfold isIn
  rw [Bool.eq_iff_iff]
  simp
theorem flags_hit (n : Nat) (zs : List Int) (m : Nat) : flags n (zs ++ [(m : Int)]) = (flags n zs).set m (.bool true) := by
  apply List.ext_getElem?
  intro i
  by_cases h : i < n
  · rw [flags_at n _ i h, isIn_snoc, List.getElem?_set, flags_at n zs i h, len_flags]
    by_cases e : m = i
    · subst e; simp [h]
    · rw [if_neg e]
      have : decide ((i : Int) = (m : Int)) = false := by simp; omega
      rw [this, Bool.or_false]
  · rw [List.getElem?_eq_none (by rw [len_flags]; omega), List.getElem?_eq_none (by simp [len_flags]; omega)]
theorem flags_miss (n : Nat) (zs : List Int) (z : Int) (hz : z < 0 ∨ (n : Int) ≤ z) : flags n (zs ++ [z]) = flags n zs := by
  apply List.ext_getElem?
  intro i
  by_cases h : i < n
  · rw [flags_at n _ i h, flags_at n _ i h, isIn_snoc]
    have : decide ((i : Int) = z) = false := by simp; omega
    rw [this, Bool.or_false]
  · rw [List.getElem?_eq_none (by rw [len_flags]; omega), List.getElem?_eq_none (by rw [len_flags]; omega)]
/-- Those writes whose numbers f tells. -/
def sel {α : Type} (l : List α) (f : Nat → Bool) : List α := (l.zipIdx.filter (fun x => f x.2)).map Prod.fst
theorem sel_nil {α : Type} (f : Nat → Bool) : sel ([] : List α) f = [] := rfl
theorem sel_snoc {α : Type} (l : List α) (x : α) (f : Nat → Bool) : sel (l ++ [x]) f = if f l.length then sel l f ++ [x] else sel l f := by
  unfold sel
  rw [List.zipIdx_append, List.filter_append, List.map_append]
  cases h : f l.length <;> simp [h]
theorem sel_mem {α : Type} {l : List α} {f : Nat → Bool} {x : α} (h : x ∈ sel l f) : x ∈ l := by
  unfold sel at h
  obtain ⟨y, hy, rfl⟩ := List.mem_map.1 h
  have := (List.mem_filter.1 hy).1
  exact (List.mem_zipIdx' (x := y.1) (i := y.2) this).2 ▸ List.getElem_mem _
def Dsk.crashed (D : Dsk) (zs : List Int) : Dsk := { (D.keepAll (sel D.pend (isIn zs))).lost with fuse := -1, dead := false }
theorem Dsk.Ok.crashed {D : Dsk} (h : D.Ok) (zs : List Int) : (D.crashed zs).Ok := by
  have h1 := (h.keepAll (l := sel D.pend (isIn zs)) (fun x hx => (h.pend x (sel_mem hx)).2)).lost
  exact ⟨h1.pos, h1.most, h1.kept, h1.pend, by simp [Dsk.crashed]⟩
theorem info_bool3 : (Tryd.prog.info? 4).map (fun i => (i.zero, i.size, i.bytes)) = some (some (.bool false), 1, 1) := by kernel_rfl
theorem make_bools (n : Nat) (h1 : n ≤ 1000000000) (w : World) : (Instr.makeSlice 95 (.int .i64 n) (.int .i64 n)).run Tryd.prog w = .ok (.slice (some ⟨w.heap.size, 0, none⟩) n n) (w.alloc (.cells (flags n []).toArray 4)) := by
  obtain ⟨i, hi, hz, hs, hb⟩ := info_parts_ info_bool3
  have := run_make (P := Tryd.prog) (w := w) 95 4 i _ Tryd.underlying95 hi hz .i64 .i64 n n (Int.natCast_nonneg _) (Int.le_refl _) (by rw [hb]; omega) (by omega)
  rw [this, hs, Int.toNat_natCast, Nat.mul_one, flags_nil]
  have e := made_same 1 n (.bool false) (by decide)
  simp only [Value.cells]
  rw [show (#[Value.bool false] : Array Value) = (List.replicate 1 (Value.bool false)).toArray from rfl, e]
set_option maxRecDepth 100000 in
set_option maxHeartbeats 4000000 in
theorem crash_ok {p gk gm : Nat} {vP : Value} {D : Dsk} (ok : D.Ok) (hp : D.pend.length < 1000000000) (v : Value) (zs : List Int) (hzl : zs.length ≤ 9223372036854775807) (w : World) (h : DkM w p D gk gm vP) (hk : Iv (Own p gk gm vP) w v zs) :
    Calls Tryd.prog 25 #[.pointer (some ⟨p, 0, none⟩), v] w fun e w' => e = .returned (.int .i64 0) ∧ ∃ gm', DkM w' p (D.crashed zs) gk gm' (.slice none 0 0) ∧ Turn (Own p gk gm vP) w w' ∧ w.heap.size ≤ gm' := by
  have HC := Lib.hid (made_any p _ _ _ w h.cells.choose_spec.1)
  rw [show decide (0 < D.kept.length) = true from by simpa using ok.pos] at HC
  have H := Lib.hid h
  obtain ⟨A', cap', hv⟩ := h.vform
  subst hv
  have hmb := make_bools D.pend.length (by omega)
  have HK := Lib.hid hk
  obtain ⟨A, capz, hvz, hkr⟩ := hk
  subst hvz
  clear hkr
  obtain ⟨hz1, hz2⟩ := zero_of_info (P := Tryd.prog) (t := 99) (v := .agg (wv (0, zeros)).toArray) (n := 129) (by kernel_rfl)
  have HZS : Hid ((wv (0, zeros)).toArray.size = 129) := Lib.hid rfl
  obtain ⟨Z, hZ⟩ : ∃ Z, (wv (0, zeros)).toArray = Z := ⟨_, rfl⟩
  rw [hZ] at HZS hz1
  have OK := Lib.hid ok
  have hn0 : (D.pend.length : Int) < 1000000000 := by omega
  have hnz : (zs.length : Int) ≤ 9223372036854775807 := by omega
  obtain ⟨ck, c0, c1, c2, c3, c4, f1, f2, f3, f4⟩ := h.cells
  have hlt := h.plt
  clear hz2 hZ
  have HB0 := Lib.hid (Blk.new w 4 (flags D.pend.length []))
  obtain ⟨F0, hF0⟩ : ∃ F, flags D.pend.length [] = F := ⟨_, rfl⟩
  rw [hF0] at hmb HB0
  have HF0 := Lib.hid hF0
  clear h hF0
  go_enter Tryd.func25, Tryd.ntmps25
  go_wp2_with (go_at_call 54; refine HC.out.mono ?_; rintro e w' ⟨rfl, rfl⟩)
  have TW : Hid (Turn (fun _ => False) w (w.alloc (.cells F0.toArray 4))) := Lib.hid ((Turn.refl _ _).alloc _)
  clear c0 c1 c2 c3 c4 f1 f2 f3 f4 hmb
  go_loopw [21] (fun i wr => ∃ j : Nat, j ≤ zs.length ∧ i = .int .i64 j ∧ Blk wr w.heap.size 4 (flags D.pend.length (zs.take j)) ∧ Turn (fun _ => False) w wr ∧ w.heap.size < wr.heap.size) (fun i _ => zs.length - (intOf i).toNat)
  case atStart => exact ⟨0, Nat.zero_le _, rfl, by rw [List.take_zero, HF0.out]; exact HB0.out, TW.out, by simp⟩
  case round =>
    obtain ⟨j, hj, rfl, hb, ht, hgt⟩ := hrel
    have HBF := Lib.hid hb
    have HT := Lib.hid ht
    by_cases hltj : j < zs.length
    · obtain ⟨z, hz⟩ : ∃ z, zs[j]? = some z := ⟨_, List.getElem?_eq_getElem hltj⟩
      obtain ⟨A2, cap2, e2, hr⟩ := HK.out.turn ht (fun _ h => h.elim)
      obtain ⟨b, o, eA, _, _, hcz⟩ := hr (by omega)
      injection e2 with e2 _ _
      rw [eA] at e2
      subst e2
      have hcell := hcz j z hz
      have hj1 : (j : Int) < (zs.length : Int) := by omega
      have HTK := Lib.hid (take_snoc_ hz)
      clear hb ht hr hcz eA hz
      by_cases hin : 0 ≤ z ∧ z < (D.pend.length : Int)
      · obtain ⟨m, rfl⟩ : ∃ m : Nat, z = m := ⟨z.toNat, by omega⟩
        have hm : m < D.pend.length := by omega
        have hold : wr.cell? ⟨w.heap.size, m, none⟩ = some (.bool (isIn (zs.take j) m)) := (HBF.out.cell m).trans (flags_at _ _ m hm)
        have hfr := HBF.out.free m
        have hput := HBF.out.put m (.bool true)
        rw [← flags_hit, ← HTK.out] at hput
        have HP := Lib.hid hput
        have hm0 : (0 : Int) ≤ (m : Int) := Int.natCast_nonneg _
        have hm1 : (m : Int) < (D.pend.length : Int) := by omega
        clear hput hin
        go_wp2
        go_roundw
        case rel => exact ⟨j + 1, by omega, by go_num, HP.out, HT.out.setCell (p := ⟨w.heap.size, m, none⟩) (.inr (Nat.le_refl _)) _, by simpa using hgt⟩
        case measure => simp [intOf]; omega
      · have HMI : Hid (flags D.pend.length (zs.take (j + 1)) = flags D.pend.length (zs.take j)) := Lib.hid (by rw [HTK.out]; exact flags_miss _ _ _ (by omega))
        rcases (show z < 0 ∨ (0 ≤ z ∧ (D.pend.length : Int) ≤ z) from by omega) with hz1 | ⟨hz1, hz2⟩
        · have n1 : decide ((0 : Int) ≤ z) = false := by simp; omega
          clear hin hz1
          go_wp2
          go_roundw
          case rel => exact ⟨j + 1, by omega, by go_num, by rw [HMI.out]; exact HBF.out, HT.out, hgt⟩
          case measure => simp [intOf]; omega
        · have n2 : decide (z < (D.pend.length : Int)) = false := by simp; omega
          clear hin hz2
          go_wp2
          go_roundw
          case rel => exact ⟨j + 1, by omega, by go_num, by rw [HMI.out]; exact HBF.out, HT.out, hgt⟩
          case measure => simp [intOf]; omega
    · obtain rfl : j = zs.length := by omega
      rw [List.take_length] at HBF
      have MW := Lib.hid (H.out.turn ht fun _ _ h => h)
      obtain ⟨ck2, c0, c1, c2, c3, c4, f1, f2, f3, f4⟩ := MW.out.cells
      clear hb
      go_wp2
      clear c0 c1 c2 c3 c4 f1 f2 f3 f4
      have htw := ht
      clear ht
      go_loopw [42] (fun i wr => ∃ j : Nat, j ≤ D.pend.length ∧ i = .int .i64 j ∧ DkM wr p (D.keepAll (sel (D.pend.take j) (isIn zs))) gk gm (.slice A' D.pend.length cap') ∧ Blk wr w.heap.size 4 (flags D.pend.length zs) ∧ Turn (fun k => k = gk) w wr ∧ w.heap.size < wr.heap.size) (fun i _ => D.pend.length - (intOf i).toNat)
      case atStart => exact ⟨0, Nat.zero_le _, rfl, by rw [List.take_zero]; exact MW.out, HBF.out, htw.mono (fun _ _ h => h.elim), hgt⟩
      case round =>
        obtain ⟨j, hj, rfl, hm, hb, ht, hgt2⟩ := hrel
        have HM := Lib.hid hm
        have HT2 := Lib.hid ht
        have HB2 := Lib.hid hb
        have hsame := keepAll_same (sel (D.pend.take j) (isIn zs)) D
        have hpe : (D.keepAll (sel (D.pend.take j) (isIn zs))).pend = D.pend := hsame.1
        have OKJ : Hid (D.keepAll (sel (D.pend.take j) (isIn zs))).Ok := Lib.hid (OK.out.keepAll (fun x hx => (OK.out.pend x (List.mem_of_mem_take (sel_mem hx))).2))
        by_cases hlt2 : j < D.pend.length
        · obtain ⟨x, hx⟩ : ∃ x, D.pend[j]? = some x := ⟨_, List.getElem?_eq_getElem hlt2⟩
          obtain ⟨g, cap, hve, hr⟩ := hm.pend_range OKJ.out (n := j) (x := x) (by rw [hpe]; exact hx)
          rw [hpe] at hve
          injection hve with hve1 hve2 hve3
          subst hve1 hve3
          have HR := Lib.hid hr
          have hx2 : x.2.length = 128 := (OK.out.pend x (List.mem_of_getElem? hx)).2
          have HKP : Hid (∀ w', DkM w' p (D.keepAll (sel (D.pend.take j) (isIn zs))) gk gm (.slice (some ⟨g, 0, none⟩) D.pend.length cap') → Calls Tryd.prog 55 #[.pointer (some ⟨p, 0, none⟩), .agg (wv x).toArray] w' fun e w'' => e = .returned (.tuple #[]) ∧ DkM w'' p ((D.keepAll (sel (D.pend.take j) (isIn zs))).keepW x) gk gm (.slice (some ⟨g, 0, none⟩) D.pend.length cap') ∧ Turn (· = gk) w' w'') :=
            Lib.hid (fun w' hm' => keep_ok OKJ.out x (by rw [hsame.2.2.2]; exact (OK.out.pend x (List.mem_of_getElem? hx)).1) hx2 w' hm')
          have hnext := sel_snoc (D.pend.take j) x (isIn zs)
          rw [← take_snoc_ hx, List.length_take, Nat.min_eq_left hj] at hnext
          have hfl : wr.cell? ⟨w.heap.size, j, none⟩ = some (.bool (isIn zs j)) := (HB2.out.cell j).trans (flags_at _ _ j hlt2)
          have hlw : (wv x).length = 129 := len_wv hx2
          have how := all_oneCell_toArray (one_wv x)
          obtain ⟨X, hX⟩ : ∃ X, wv x = X := ⟨_, rfl⟩
          rw [hX] at hlw how HR HKP
          have HOW := Lib.hid how
          have HI : Hid ((Tryd.prog.info? 99).map (·.size) = some X.length) := Lib.hid (by rw [info_write, hlw])
          have HI' : Hid ((Tryd.prog.info? 99).map (·.size) = some X.toArray.size) := Lib.hid (by rw [info_write]; simp [hlw])
          have HS : Hid (Z.size = X.toArray.size) := Lib.hid (by rw [HZS.out]; simp [hlw])
          have HXR : Hid (World.rangeAt (wr.alloc (.cells X.toArray 99)) wr.heap.size 0 X) := Lib.hid ((Blk.new wr 99 X).range 0 X (fun j v hv => by rw [Nat.zero_add]; exact hv))
          have hj0 : (0 : Int) ≤ (j : Int) := Int.natCast_nonneg _
          have hj1 : (j : Int) < (D.pend.length : Int) := by omega
          have hgkw : w.heap.size ≠ gk := by have := H.out.klt; omega
          rcases Bool.eq_false_or_eq_true (isIn zs j) with hf | hf
          all_goals rw [hf] at hnext hfl
          all_goals simp only [if_true, Bool.false_eq_true, if_false] at hnext
          · have HN : Hid (D.keepAll (sel (D.pend.take (j + 1)) (isIn zs)) = (D.keepAll (sel (D.pend.take j) (isIn zs))).keepW x) := Lib.hid (by rw [hnext, keepAll_snoc])
            clear hm ht hb hsame hpe hr hx hX hlw how hx2 hve2 hnext hf htw
            go_wp2_with (first
              | (refine wpList_load_mid rfl 99 _ rfl g (j * 129) rfl X _ HR.out Tryd.underlying99 rfl HI.out ?_)
              | (refine wpList_load_mid rfl 99 _ rfl wr.heap.size 0 rfl X _ HXR.out Tryd.underlying99 rfl HI.out ?_)
              | (refine wpList_store_new rfl 99 _ _ rfl Z X.toArray rfl rfl HI'.out HS.out HOW.out ?_)
              | (go_at_call 55; refine (HKP.out _ (HM.out.turn (T := fun _ => False) ((Turn.refl _ _).alloc _) (fun _ _ h => h))).mono ?_; rintro e w5 ⟨rfl, h1, h2⟩; have M5 := Lib.hid h1; have T5 := Lib.hid h2; clear h1 h2))
            go_roundw
            case rel => exact ⟨j + 1, by omega, by go_num, by rw [HN.out]; exact M5.out, (HB2.out.alloc _).turn T5.out hgkw, (HT2.out.alloc _).trans_new T5.out (fun k hk e => e), Nat.lt_of_lt_of_le hgt2 (by have := T5.out.size; simp at this; omega)⟩
            case measure => simp [intOf]; omega
          · have HN : Hid (D.keepAll (sel (D.pend.take (j + 1)) (isIn zs)) = D.keepAll (sel (D.pend.take j) (isIn zs))) := Lib.hid (by rw [hnext])
            clear hm ht hb hsame hpe hr hx hX hlw how hx2 hve2 hnext hf htw
            go_wp2_with (first
              | (refine wpList_load_mid rfl 99 _ rfl g (j * 129) rfl X _ HR.out Tryd.underlying99 rfl HI.out ?_)
              | (refine wpList_store_new rfl 99 _ _ rfl Z X.toArray rfl rfl HI'.out HS.out HOW.out ?_))
            go_roundw
            case rel => exact ⟨j + 1, by omega, by go_num, by rw [HN.out]; exact HM.out.turn (T := fun _ => False) ((Turn.refl _ _).alloc _) (fun _ _ h => h), HB2.out.alloc _, HT2.out.alloc _, by simp; omega⟩
            case measure => simp [intOf]; omega
        · obtain rfl : j = D.pend.length := by omega
          rw [List.take_length] at HM hm
          have HF := Lib.hid (forget_ok wr hm)
          clear hm ht hb hsame hpe htw
          go_wp2_with (go_at_call 32; refine HF.out.mono ?_; rintro e w5 ⟨rfl, h1, h2⟩; have M5 := Lib.hid h1; have T5 := Lib.hid h2; clear h2; obtain ⟨ck3, c0, c1, c2, c3, c4, f1, f2, f3, f4⟩ := h1.cells; clear h1)
          go_ret
          refine ⟨rfl, wr.heap.size, (M5.out.setFuse (-1)).setDead false, ?_, by omega⟩
          exact (((HT2.out.mono (fun k _ e => .inr (.inl e))).trans_new T5.out (fun k hk e => .inl e)).setCell (p := ⟨p, 3, none⟩) (.inl (.inl rfl)) _).setCell (p := ⟨p, 4, none⟩) (.inl (.inl rfl)) _
end Go.Proofs.YtmedljnbcpdoeaaDoor
