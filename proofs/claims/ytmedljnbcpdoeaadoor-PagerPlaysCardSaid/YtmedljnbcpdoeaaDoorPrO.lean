/- Layer 9: Rewrite. -/
import Derived.Test.YtmedljnbcpdoeaaDoorPrK
namespace Go.Proofs.YtmedljnbcpdoeaaDoor
open Go.RowKit
set_option linter.unusedVariables false
set_option linter.unusedSimpArgs false
set_option maxRecDepth 100000

def rwr9 (fr : Nat) (st : List Nat) (D : Dsk) (i : Int) (b : List UInt8) : Dsk × Int :=
  if 1024 < b.length then (D, 5) else if is9 st i 2 then putk 8 D ((fr + 8 * i.toNat : Nat) : Int) b else (D, 7)
set_option maxHeartbeats 1000000 in
theorem rewrite9_q {S : Nat → Prop} {w : World} {p pd fr : Nat} {st : List Nat} {D : Dsk} (h : Pq S w p pd fr st D) (i : Int) {A : Option Addr} {c : Nat} {bl : List UInt8} (hB : bl.length ≤ 1024 → Ba S w A c bl) (hpn : D.pend.length + 8 < 1000000000) :
    Calls Tryd.prog 11 #[.pointer (some ⟨p, 0, none⟩), .int .i64 i, .slice A bl.length c] w fun r w' => r = .returned (.int .i64 (rwr9 fr st D i bl).2) ∧ ∃ S', Pq S' w' p pd fr st (rwr9 fr st D i bl).1 ∧ Stp S w S' w' := by
  have hq := h
  obtain ⟨pa, ga, gr, SD, hP, hD, hap, rfl, hroom⟩ := h
  have HM := Lib.hid (made9 hP)
  have HI := Lib.hid (is9_any hP i 2)
  rw [show ((2 : Nat) : Int) = 2 from rfl] at HI
  have hkm : D.kept.length ≤ 16384 := hD.1.most
  have hst := hP.le
  have HQ : Hid (∃ S', Pq S' w p pd fr st D ∧ Stp (Pown p pa ga gr SD) w S' w) := Lib.hid ⟨_, hq, Stp.refl _ _⟩
  by_cases hlen : 1024 < bl.length
  · rw [show rwr9 fr st D i bl = (D, 5) by unfold rwr9; rw [if_pos hlen]]
    have hl1 : (1024 : Int) < (bl.length : Int) := by omega
    clear hP hD hap hB hlen hq hroom
    generalize bl.length = L at *
    go_enter Tryd.func11, Tryd.ntmps11
    go_wp2_with fail
    refine HM.out.mono ?_
    rintro e w1 ⟨rfl, rfl⟩
    go_wp2_with fail
    go_ret
    exact ⟨rfl, HQ.out⟩
  · have hl1 : ¬ (1024 : Int) < (bl.length : Int) := by omega
    cases hi : is9 st i 2 with
    | false =>
      rw [hi] at HI
      rw [show rwr9 fr st D i bl = (D, 7) by unfold rwr9; rw [if_neg hlen, hi]; rfl]
      clear hP hD hap hB hlen hq hroom hi
      generalize bl.length = L at *
      go_enter Tryd.func11, Tryd.ntmps11
      go_wp2_with fail
      refine HM.out.mono ?_
      rintro e w1 ⟨rfl, rfl⟩
      go_wp2_with fail
      refine HI.out.mono ?_
      rintro e w1 ⟨rfl, rfl⟩
      go_wp2_with fail
      go_ret
      exact ⟨rfl, HQ.out⟩
    | true =>
      rw [hi] at HI
      obtain ⟨k, rfl, hk, _⟩ := is9_iff hi
      have hR : rwr9 fr st D (k : Int) bl = putk 8 D ((fr + 8 * k : Nat) : Int) bl := by unfold rwr9; rw [if_neg hlen, hi, Int.toNat_natCast]; rfl
      have hkl := Lib.hid (putk_len 8 D ((fr + 8 * k : Nat) : Int) bl)
      have HPUT := Lib.hid (put9_any hP hD hap (by omega) k (by omega) ((hB (by omega)).turn (Turn.refl _ _) (fun k hk => .inl (.inr (.inr (.inr (.inr hk)))))) hpn)
      rw [hR]
      obtain ⟨R, hR2⟩ : ∃ R, putk 8 D ((fr + 8 * k : Nat) : Int) bl = R := ⟨_, rfl⟩
      rw [hR2] at hkl HPUT ⊢
      have HF := Lib.hid (fun (W : World) (S' : Nat → Prop) (h1 : Dq S' W pd R.1) (h2 : Stp SD w S' W) => Pq.mk (SD := SD) (w := w) (hP.turn h2.1 (fun h => (hap _ h).1 rfl) (fun h => (hap _ h).2.1 rfl) (fun h => (hap _ h).2.2.1 rfl) (fun h => (hap _ h).2.2.2.1 rfl) (fun h => (hap _ h).2.2.2.2 rfl)) h1 hap ⟨hP.bx.lt, hP.al.ltp, hP.al.ltg, hP.row.lt⟩ h2.2 (h2.1.mono (fun k _ hk => .inr (.inr (.inr (.inr hk))))) (by rw [hkl.out.1]; exact hroom))
      clear hP hD hap hB hlen hq hroom hi hR hR2 hk
      generalize bl.length = L at *
      go_enter Tryd.func11, Tryd.ntmps11
      go_wp2_with fail
      refine HM.out.mono ?_
      rintro e w1 ⟨rfl, rfl⟩
      go_wp2_with fail
      refine HI.out.mono ?_
      rintro e w1 ⟨rfl, rfl⟩
      go_wp2_with fail
      refine HPUT.out.mono ?_
      rintro e w2 ⟨rfl, S2, hD2, hS2⟩
      have HX := Lib.hid (HF.out w2 S2 hD2 hS2)
      clear hD2 hS2
      go_wp2_with fail
      go_ret
      exact ⟨rfl, HX.out⟩
end Go.Proofs.YtmedljnbcpdoeaaDoor
/- Layer 9: Keep. -/
namespace Go.Proofs.YtmedljnbcpdoeaaDoor
open Go.RowKit
set_option linter.unusedVariables false
set_option linter.unusedSimpArgs false
set_option maxRecDepth 100000

/-- Are all numbers below n, and none twice, none of them seen? -/
def ap9 (n : Nat) : List Bool → List Int → Bool
  | _, [] => true
  | s, z :: t => if 0 ≤ z ∧ z < n then (if s.getD z.toNat false then false else ap9 n (s.set z.toNat true) t) else false
theorem ap9_spec (n : Nat) : ∀ (L : List Int) (s : List Bool), s.length = n → ap9 n s L = true → L.Nodup ∧ ∀ z ∈ L, 0 ≤ z ∧ z < n ∧ s.getD z.toNat false = false
  | [], s, _, _ => ⟨List.nodup_nil, fun z hz => by cases hz⟩
  | z :: t, s, hs, h => by
    rw [ap9] at h
    split at h
    · rename_i hz
      split at h
      · cases h
      · rename_i hsz
        have hsz : s.getD z.toNat false = false := by simpa using hsz
        obtain ⟨h1, h2⟩ := ap9_spec n t (s.set z.toNat true) (by rw [List.length_set]; exact hs) h
        have hzl : z.toNat < s.length := by omega
        refine ⟨List.nodup_cons.2 ⟨fun hm => ?_, h1⟩, fun y hy => ?_⟩
        · have := (h2 z hm).2.2
          rw [getD_set _ _ _ _ hzl, if_pos rfl] at this
          cases this
        · rcases List.mem_cons.1 hy with rfl | hy
          · exact ⟨hz.1, hz.2, hsz⟩
          · obtain ⟨h3, h4, h5⟩ := h2 y hy
            refine ⟨h3, h4, ?_⟩
            rw [getD_set _ _ _ _ hzl] at h5
            split at h5
            · cases h5
            · exact h5
    · cases h
def apart9 (st : List Nat) (zs : List Int) : Bool := ap9 st.length (List.replicate st.length false) zs
def keep9 (st : List Nat) (zs : List Int) : List Nat × Int :=
  if apart9 st zs then (if zs.any (fun z => has7 (bits9 st) z) then (st, 8) else (tr9 1 st zs, 0)) else (st, 2)
theorem info_bool9 : (Tryd.prog.info? 4).map (fun i => (i.zero, i.size, i.bytes)) = some (some (.bool false), 1, 1) := by kernel_rfl
theorem make_bools9 (n : Nat) (h1 : n ≤ 16384) (w : World) : (Instr.makeSlice 95 (.int .i64 n) (.int .i64 n)).run Tryd.prog w = .ok (.slice (some ⟨w.heap.size, 0, none⟩) n n) (w.alloc (.cells (List.replicate n (.bool false)).toArray 4)) := by
  obtain ⟨i, hi, hz, hs, hb⟩ := info_parts_ info_bool9
  have := run_makeSlice (P := Tryd.prog) (w := w) 95 4 i _ Tryd.underlying95 hi hz .i64 .i64 n n (Int.natCast_nonneg _) (Int.le_refl _) (by rw [hs]; simp; omega) (by rw [hb]; omega) (by omega)
  rw [this, hs, Int.toNat_natCast, Nat.mul_one, show (Value.bool false).cells = (List.replicate 1 (Value.bool false)).toArray from rfl, made_same 1 _ _ (by decide)]
variable {w w' : World} {p pd pa ga gr fr : Nat} {st : List Nat} {l : List Bool} {S : Nat → Prop}
set_option maxHeartbeats 2000000 in
theorem apart9_any (h : Pm w p pd pa ga gr fr st l) (v : Value) (zs : List Int) (hz : Iv S w v zs) (hzl : zs.length ≤ 9223372036854775807) :
    Calls Tryd.prog 45 #[.pointer (some ⟨p, 2, none⟩), v] w fun r w' => r = .returned (.bool (apart9 st zs)) ∧ Turn (fun _ => False) w w' := by
  have hle := h.le
  have c3 := h.bx.cell 3
  simp only [List.getElem?_cons_succ, List.getElem?_cons_zero] at c3
  obtain ⟨A, c, rfl, hcells⟩ := hz
  have HC := Lib.hid hcells
  have HP := Lib.hid h
  have hmk := make_bools9 st.length hle w
  obtain ⟨R, hR⟩ : ∃ R, apart9 st zs = R := ⟨_, rfl⟩
  rw [hR]
  have HR := Lib.hid hR
  clear h hcells hR
  obtain ⟨n, hn⟩ : ∃ n, st.length = n := ⟨_, rfl⟩
  obtain ⟨m, hm⟩ : ∃ m, zs.length = m := ⟨_, rfl⟩
  have HN := Lib.hid hn
  have HMM := Lib.hid hm
  rw [hn] at hle c3 hmk
  rw [hm] at hzl ⊢
  have HG := Lib.hid (show Blk (w.alloc (.cells (List.replicate n (.bool false)).toArray 4)) w.heap.size 4 ((List.replicate n false).map Value.bool) by
    have := Blk.new w 4 (List.replicate n (.bool false))
    rw [List.map_replicate]; exact this)
  have TG := Lib.hid ((Turn.refl (fun _ => False) w).alloc (.cells (List.replicate n (.bool false)).toArray 4))
  simp only [List.toArray_replicate] at HG TG hmk
  clear hn hm
  go_enter Tryd.func45, Tryd.ntmps45
  go_wp2_with fail
  go_loopw [7, 16] (fun v7 v16 wr => ∃ (j : Nat) (s : List Bool), j ≤ m ∧ v16 = .int .i64 j ∧ s.length = n ∧ Hid (ap9 n s (zs.drop j) = R) ∧ Blk wr w.heap.size 4 (s.map Value.bool) ∧ Turn (fun _ => False) w wr) (fun _ v16 _ => m - (intOf v16).toNat)
  case atStart => exact ⟨0, List.replicate n false, Nat.zero_le _, rfl, List.length_replicate, Lib.hid (by have := HR.out; unfold apart9 at this; rw [HN.out] at this; simpa using this), HG.out, TG.out⟩
  case round =>
    obtain ⟨j, s, hj, rfl, hsl, HA, hB, hT⟩ := hrel
    have BB := Lib.hid hB
    have TT := Lib.hid hT
    have HSL := Lib.hid hsl
    clear hB hT hsl
    by_cases hlt : j < m
    · have hl1 : (j : Int) < (m : Int) := by omega
      have hl0 : (0 : Int) ≤ (j : Int) := by omega
      have hq := wrap_of ((j : Int) + 1) (by omega) (by omega)
      have hjL : j < zs.length := by rw [HMM.out]; exact hlt
      obtain ⟨z, hz⟩ : ∃ z, zs[j]? = some z := ⟨_, List.getElem?_eq_getElem hjL⟩
      obtain ⟨b, o, rfl, hb1, hb2, hb3⟩ := HC.out (by omega)
      have hc : wr.cell? ⟨b, o + j, none⟩ = some (.int .i64 z) := (World.cell?_of_block (w := w) (a := ⟨b, o + j, none⟩) (TT.out.block b hb1 (fun h => h))).trans (hb3 j z hz)
      have HH := Lib.hid (has9_any (HP.out.still TT.out) z)
      have HD : Hid (ap9 n s (z :: zs.drop (j + 1)) = R) := Lib.hid (by
        have := HA.out
        rw [List.drop_eq_getElem_cons hjL] at this
        rw [List.getElem?_eq_getElem hjL] at hz
        injection hz with hz
        rw [hz] at this; exact this)
      clear hz hjL hb3 HA
      cases hh : has9 st z with
      | false =>
        rw [hh] at HH
        have HRf : Hid (R = false) := Lib.hid (by
          have h1 := HD.out
          rw [ap9, if_neg] at h1
          · exact h1.symm
          · intro h2
            have : has9 st z = true := by unfold has9; rw [HN.out]; simp; exact h2
            rw [hh] at this; cases this)
        clear hh
        go_wp2_with fail
        refine HH.out.mono ?_
        rintro e w1 ⟨rfl, rfl⟩
        go_wp2_with fail
        go_ret
        exact ⟨by rw [HRf.out]; rfl, TT.out⟩
      | true =>
        rw [hh] at HH
        have hzn : 0 ≤ z ∧ z < n := by unfold has9 at hh; rw [HN.out] at hh; simpa using hh
        obtain ⟨k, rfl⟩ : ∃ k : Nat, z = k := ⟨z.toNat, by omega⟩
        have hkn : k < n := by omega
        have z0 : (0 : Int) ≤ (k : Int) := by omega
        have z1 : (k : Int) < (n : Int) := by omega
        have hks : k < s.length := by rw [HSL.out]; exact hkn
        obtain ⟨q, hqq⟩ : ∃ q, s.getD k false = q := ⟨_, rfl⟩
        have sc : wr.cell? ⟨w.heap.size, k, none⟩ = some (.bool q) := by
          rw [BB.out.cell k, List.getElem?_map, List.getElem?_eq_getElem hks, ← hqq, List.getD_eq_getElem?_getD, List.getElem?_eq_getElem hks]; rfl
        have sf : wr.frozen? ⟨w.heap.size, k, none⟩ = false := BB.out.free k
        have HD2 : Hid ((if q then false else ap9 n (s.set k true) (zs.drop (j + 1))) = R) := Lib.hid (by
          have h1 := HD.out
          rw [ap9, if_pos hzn, Int.toNat_natCast, hqq] at h1
          exact h1)
        clear hh hzn hqq hks HD
        cases q with
        | true =>
          have HRf : Hid (R = false) := Lib.hid (by have h1 := HD2.out; simpa using h1.symm)
          go_wp2_with fail
          refine HH.out.mono ?_
          rintro e w1 ⟨rfl, rfl⟩
          go_wp2_with fail
          go_ret
          exact ⟨by rw [HRf.out]; rfl, TT.out⟩
        | false =>
          have HD3 : Hid (ap9 n (s.set k true) (zs.drop (j + 1)) = R) := Lib.hid (by have h1 := HD2.out; simpa using h1)
          have BP := Lib.hid (show Blk (wr.setCell ⟨w.heap.size, k, none⟩ (.bool true)) w.heap.size 4 ((s.set k true).map Value.bool) by rw [List.map_set]; exact BB.out.put k (.bool true))
          have TP := Lib.hid (TT.out.trans_new ((Turn.refl (fun q => q = w.heap.size) wr).setCell (p := ⟨w.heap.size, k, none⟩) (.inl rfl) (.bool true)) (fun q hq h => by omega))
          have HSL2 : Hid ((s.set k true).length = n) := Lib.hid (by rw [List.length_set]; exact HSL.out)
          go_wp2_with fail
          refine HH.out.mono ?_
          rintro e w1 ⟨rfl, rfl⟩
          go_wp2_with fail
          go_roundw
          case rel => exact ⟨j + 1, s.set k true, by omega, by simp [hq], HSL2.out, HD3, BP.out, TP.out⟩
          case measure => simp [intOf, hq]; omega
    · obtain rfl : j = m := by omega
      have HRt : Hid (R = true) := Lib.hid (by
        have h1 := HA.out
        rw [List.drop_eq_nil_of_le (by rw [HMM.out]; exact Nat.le_refl _), ap9] at h1
        exact h1.symm)
      go_wp2_with fail
      go_ret
      exact ⟨by rw [HRt.out]; rfl, TT.out⟩
end Go.Proofs.YtmedljnbcpdoeaaDoor
/- Layer 9: Keep. -/
namespace Go.Proofs.YtmedljnbcpdoeaaDoor
open Go.RowKit
set_option linter.unusedVariables false
set_option linter.unusedSimpArgs false
set_option maxRecDepth 100000

variable {w w' : World} {p pd pa ga gr fr : Nat} {st : List Nat} {l : List Bool} {S : Nat → Prop}
set_option maxHeartbeats 1000000 in
theorem idx9_any (h : Al w pa ga l) (v : Value) (zs : List Int) (hz : Iv S w v zs) (hzl : zs.length ≤ 9223372036854775807) :
    Calls Tryd.prog 64 #[v, .func (.func 47) #[.pointer (some ⟨pa, 0, none⟩)] #[]] w
      fun e w' => ∃ i : Int, e = .returned (.int .i64 i) ∧ decide (0 ≤ i) = zs.any (fun z => has7 l z) ∧ Turn (fun _ => False) w w' := by
  obtain ⟨A, c, rfl, hcells⟩ := hz
  have HC := Lib.hid hcells
  have HH := Lib.hid (fun (W : World) (hW : Turn (fun _ => False) w W) (z : Int) => hasPage7 (h.still hW) z)
  have HW := Lib.hid (Turn.refl (fun _ => False) w)
  obtain ⟨R, hR⟩ : ∃ R, zs.any (fun z => has7 l z) = R := ⟨_, rfl⟩
  rw [hR]
  have HR := Lib.hid hR
  obtain ⟨m, hm⟩ : ∃ m, zs.length = m := ⟨_, rfl⟩
  have HMM := Lib.hid hm
  rw [hm] at hzl ⊢
  clear h hcells hR hm
  go_enter Tryd.func64, Tryd.ntmps64
  go_wp2_with fail
  go_loopw [5, 8] (fun _ v8 wr => ∃ j : Nat, j ≤ m ∧ v8 = .int .i64 j ∧ Hid ((zs.drop j).any (fun z => has7 l z) = R) ∧ Turn (fun _ => False) w wr) (fun _ v8 _ => m - (intOf v8).toNat)
  case atStart => exact ⟨0, Nat.zero_le _, rfl, Lib.hid (by rw [List.drop_zero]; exact HR.out), HW.out⟩
  case round =>
    obtain ⟨j, hj, rfl, HA, hT⟩ := hrel
    have TT := Lib.hid hT
    clear hT
    by_cases hlt : j < m
    · have hl1 : (j : Int) < (m : Int) := by omega
      have hl0 : (0 : Int) ≤ (j : Int) := by omega
      have hq := wrap_of ((j : Int) + 1) (by omega) (by omega)
      have hjL : j < zs.length := by rw [HMM.out]; exact hlt
      obtain ⟨z, hz⟩ : ∃ z, zs[j]? = some z := ⟨_, List.getElem?_eq_getElem hjL⟩
      obtain ⟨b, o, rfl, hb1, hb2, hb3⟩ := HC.out (by omega)
      have hc : wr.cell? ⟨b, o + j, none⟩ = some (.int .i64 z) := (World.cell?_of_block (w := w) (a := ⟨b, o + j, none⟩) (TT.out.block b hb1 (fun h => h))).trans (hb3 j z hz)
      have HD : Hid ((has7 l z || (zs.drop (j + 1)).any (fun z => has7 l z)) = R) := Lib.hid (by
        have := HA.out
        rw [List.drop_eq_getElem_cons hjL] at this
        rw [List.getElem?_eq_getElem hjL] at hz
        injection hz with hz
        rw [hz, List.any_cons] at this; exact this)
      have HHz := Lib.hid (HH.out wr TT.out z)
      clear hz hjL hb3 HA
      generalize has7 l z = q at *
      cases q with
      | true =>
        have HRt : Hid (R = true) := Lib.hid (by have h1 := HD.out; simpa using h1.symm)
        go_wp2_with fail
        refine HHz.out.mono ?_
        rintro e w1 ⟨rfl, ht⟩
        have T1 := Lib.hid (TT.out.trans ht)
        clear ht
        go_wp2_with fail
        go_ret
        exact ⟨_, rfl, by rw [HRt.out]; exact decide_eq_true hl0, T1.out⟩
      | false =>
        have HRf : Hid ((zs.drop (j + 1)).any (fun z => has7 l z) = R) := Lib.hid (by have h1 := HD.out; simpa using h1)
        go_wp2_with fail
        refine HHz.out.mono ?_
        rintro e w1 ⟨rfl, ht⟩
        have T1 := Lib.hid (TT.out.trans ht)
        clear ht
        go_wp2_with fail
        go_roundw
        case rel => exact ⟨j + 1, by omega, by simp [hq], HRf, T1.out⟩
        case measure => simp [intOf, hq]; omega
    · obtain rfl : j = m := by omega
      have HRf : Hid (R = false) := Lib.hid (by
        have h1 := HA.out
        rw [List.drop_eq_nil_of_le (by rw [HMM.out]; exact Nat.le_refl _)] at h1
        exact h1.symm)
      go_wp2_with fail
      go_ret
      exact ⟨_, rfl, by rw [HRf.out]; rfl, TT.out⟩
theorem contains9_any (h : Al w pa ga l) (v : Value) (zs : List Int) (hz : Iv S w v zs) (hzl : zs.length ≤ 9223372036854775807) :
    Calls Tryd.prog 46 #[v, .func (.func 47) #[.pointer (some ⟨pa, 0, none⟩)] #[]] w
      fun e w' => e = .returned (.bool (zs.any (fun z => has7 l z))) ∧ Turn (fun _ => False) w w' := by
  have HC := Lib.hid (idx9_any h v zs hz hzl)
  clear h hz
  go_enter Tryd.func46, Tryd.ntmps46
  go_wp2_with fail
  refine HC.out.mono ?_
  rintro e w1 ⟨i, rfl, hi, ht⟩
  have HI := Lib.hid hi
  have T1 := Lib.hid ht
  clear hi ht
  go_wp2_with fail
  go_ret
  exact ⟨by rw [← HI.out]; rfl, T1.out⟩
/-- A page that is free is claimed. -/
theorem clm9 (st : List Nat) (k : Nat) (hk : k < st.length) (h0 : st.getD k 0 = 0) : clm7 (bits9 st) (k : Int) = ((bits9 st).set k false, 0) := by
  have hl := len_bits9 st
  have hb : (bits9 st).getD k false = true := by rw [bits9_at st k hk, h0]; rfl
  unfold clm7
  rw [if_neg (by omega), Int.toNat_natCast, if_pos hb]
  show (flip (bits9 st) k 1, (0 : Int)) = _
  rw [flip, flip, Nat.add_zero, hb]; rfl
theorem has9_free {st : List Nat} {k : Nat} (hk : k < st.length) (h : has7 (bits9 st) (k : Int) = false) : st.getD k 0 = 0 := by
  unfold has7 at h
  have hl := len_bits9 st
  rw [decide_eq_true (by omega), Bool.true_and, Int.toNat_natCast, bits9_at st k hk] at h
  simpa using h
set_option maxHeartbeats 2000000 in
theorem keep9_any (h : Pm w p pd pa ga gr fr st (bits9 st)) (v : Value) (zs : List Int) (hz : Iv S w v zs) (hS : S ga ∧ S gr) (hzl : zs.length ≤ 9223372036854775807) :
    Calls Tryd.prog 19 #[.pointer (some ⟨p, 0, none⟩), v] w fun r w' => r = .returned (.int .i64 (keep9 st zs).2) ∧ Pm w' p pd pa ga gr fr (keep9 st zs).1 (bits9 (keep9 st zs).1) ∧ Turn (fun k => k = gr ∨ k = ga) w w' := by
  have HM := Lib.hid (made9 h)
  have HAP := Lib.hid (apart9_any h v zs hz hzl)
  have HCN := Lib.hid (fun (W : World) (ht : Turn (fun _ => False) w W) => contains9_any (h.al.still ht) v zs (hz.turn ht (fun _ h => h.elim)) hzl)
  have HP := Lib.hid h
  have HXC : Hid (∀ W, Turn (fun _ => False) w W → W.cell? ⟨p, 2, none⟩ = some (.pointer (some ⟨pa, 0, none⟩))) := Lib.hid (fun W hW => (h.still hW).bx.cell 2)
  have HIV := Lib.hid hz
  have HSS := Lib.hid hS
  cases hap : apart9 st zs with
  | false =>
    rw [hap] at HAP
    rw [show keep9 st zs = (st, 2) by unfold keep9; rw [hap]; rfl]
    clear h hz hS hap
    go_enter Tryd.func19, Tryd.ntmps19
    go_wp2_with fail
    refine HM.out.mono ?_
    rintro e w1 ⟨rfl, rfl⟩
    go_wp2_with fail
    refine HAP.out.mono ?_
    rintro e w2 ⟨rfl, ht⟩
    have P2 := Lib.hid (HP.out.still ht)
    have T2 := Lib.hid (ht.mono (T := fun k => k = gr ∨ k = ga) (fun _ _ h => h.elim))
    clear ht
    go_wp2_with fail
    go_ret
    exact ⟨rfl, P2.out, T2.out⟩
  | true =>
    rw [hap] at HAP
    cases han : zs.any (fun z => has7 (bits9 st) z) with
    | true =>
      rw [han] at HCN
      rw [show keep9 st zs = (st, 8) by unfold keep9; rw [hap, han]; rfl]
      clear h hz hS hap han
      go_enter Tryd.func19, Tryd.ntmps19
      go_wp2_with fail
      refine HM.out.mono ?_
      rintro e w1 ⟨rfl, rfl⟩
      go_wp2_with fail
      refine HAP.out.mono ?_
      rintro e w2 ⟨rfl, ht⟩
      have x2 := HXC.out _ ht
      have H2 := Lib.hid ht
      clear ht
      go_wp2_with fail
      refine (HCN.out _ H2.out).mono ?_
      rintro e w3 ⟨rfl, ht⟩
      have P3 := Lib.hid (HP.out.still (H2.out.trans ht))
      have T3 := Lib.hid ((H2.out.trans ht).mono (T := fun k => k = gr ∨ k = ga) (fun _ _ h => h.elim))
      clear ht
      go_wp2_with fail
      go_ret
      exact ⟨rfl, P3.out, T3.out⟩
    | false =>
      rw [han] at HCN
      rw [show keep9 st zs = (tr9 1 st zs, 0) by unfold keep9; rw [hap, han]; rfl]
      obtain ⟨hnd, hin⟩ := ap9_spec st.length zs _ List.length_replicate hap
      have HND := Lib.hid hnd
      have HIN : Hid (∀ z ∈ zs, 0 ≤ z ∧ z < st.length) := Lib.hid (fun z hz => ⟨(hin z hz).1, (hin z hz).2.1⟩)
      have HFR : Hid (∀ k : Nat, (k : Int) ∈ zs → st.getD k 0 = 0) := Lib.hid (fun k hk => has9_free (by have := (hin _ hk).2.1; omega) (by
        rw [List.any_eq_false] at han
        have := han _ hk
        simpa using this))
      have hle := h.le
      have hgal := h.al.ltg
      have hgrl := h.row.lt
      obtain ⟨A, c, rfl, hcells⟩ := hz
      have HC := Lib.hid hcells
      obtain ⟨m, hm⟩ : ∃ m, zs.length = m := ⟨_, rfl⟩
      have HMM := Lib.hid hm
      rw [hm] at hzl HAP HCN ⊢
      clear h hS hap han hnd hin hcells hm HIV
      go_enter Tryd.func19, Tryd.ntmps19
      go_wp2_with fail
      refine HM.out.mono ?_
      rintro e w1 ⟨rfl, rfl⟩
      go_wp2_with fail
      refine HAP.out.mono ?_
      rintro e w2 ⟨rfl, ht⟩
      have x2 := HXC.out _ ht
      have H2 := Lib.hid ht
      clear ht
      go_wp2_with fail
      refine (HCN.out _ H2.out).mono ?_
      rintro e w3 ⟨rfl, ht⟩
      have P3 := Lib.hid (HP.out.still (H2.out.trans ht))
      have T3 := Lib.hid ((H2.out.trans ht).mono (T := fun k => k = gr ∨ k = ga) (fun _ _ h => h.elim))
      clear ht x2
      go_wp2_with fail
      go_loopw [6, 26] (fun v6 v26 wr => ∃ j : Nat, j ≤ m ∧ v26 = .int .i64 j ∧ Pm wr p pd pa ga gr fr (tr9 1 st (zs.take j)) (bits9 (tr9 1 st (zs.take j))) ∧ Turn (fun k => k = gr ∨ k = ga) w1 wr) (fun _ v26 _ => m - (intOf v26).toNat)
      case atStart => exact ⟨0, Nat.zero_le _, rfl, P3.out, T3.out⟩
      case round =>
        obtain ⟨j, hj, rfl, hP, hT⟩ := hrel
        have PP := Lib.hid hP
        have TT := Lib.hid hT
        clear hP hT
        by_cases hlt : j < m
        · have hl1 : (j : Int) < (m : Int) := by omega
          have hl0 : (0 : Int) ≤ (j : Int) := by omega
          have hq := wrap_of ((j : Int) + 1) (by omega) (by omega)
          have hjL : j < zs.length := by rw [HMM.out]; exact hlt
          obtain ⟨z, hz⟩ : ∃ z, zs[j]? = some z := ⟨_, List.getElem?_eq_getElem hjL⟩
          have hzm : z ∈ zs := List.mem_of_getElem? hz
          obtain ⟨z0, z1⟩ := HIN.out z hzm
          obtain ⟨k, rfl⟩ : ∃ k : Nat, z = k := ⟨z.toNat, by omega⟩
          obtain ⟨b, o, rfl, hb1, hb2, hb3⟩ := HC.out (by omega)
          have hc : wr.cell? ⟨b, o + j, none⟩ = some (.int .i64 (k : Int)) := (World.cell?_of_block (w := w1) (a := ⟨b, o + j, none⟩) (TT.out.block b hb1 (fun h => by rcases h with h | h; exact hb2 (h ▸ HSS.out.2); exact hb2 (h ▸ HSS.out.1)))).trans (hb3 j _ hz)
          have x2 : wr.cell? ⟨p, 2, none⟩ = some (.pointer (some ⟨pa, 0, none⟩)) := PP.out.bx.cell 2
          have hnk : (tr9 1 st (zs.take j)).getD k 0 = 0 := by
            rw [tr9_at 1 _ st k (fun y hy => HIN.out y (List.mem_of_mem_take hy)), if_neg]
            · exact HFR.out k hzm
            · intro hm2
              obtain ⟨i, hi⟩ := List.getElem?_of_mem hm2
              have hij : i < j := by
                rcases Nat.lt_or_ge i j with h4 | h4
                · exact h4
                · rw [List.getElem?_take_eq_none h4] at hi; cases hi
              rw [List.getElem?_take_of_lt hij] at hi
              have := (List.getElem?_inj (show i < zs.length by omega) HND.out).1 (hi.trans hz.symm)
              omega
          have hkl : k < (tr9 1 st (zs.take j)).length := by rw [len_tr9]; omega
          have HCL := Lib.hid (claim7 PP.out.al (k : Int))
          rw [clm9 _ k hkl hnk] at HCL
          have HNX : Hid (tr9 1 st (zs.take (j + 1)) = (tr9 1 st (zs.take j)).set k 1) := Lib.hid (by
            rw [List.take_add_one, hz, show (some ((k : Nat) : Int)).toList = [((k : Nat) : Int)] from rfl, tr9_snoc, Int.toNat_natCast])
          have HS1 := Lib.hid (fun (W : World) (hW : Pm W p pd pa ga gr fr (tr9 1 st (zs.take j)) ((bits9 (tr9 1 st (zs.take j))).set k false)) => set9_any hW k 1 hkl)
          rw [if_neg (by decide), show (bits9 (tr9 1 st (zs.take j))).set k false = bits9 ((tr9 1 st (zs.take j)).set k 1) by rw [bits9_set]; rfl, ← HNX.out, show ((1 : Nat) : Int) = 1 from rfl] at HS1
          rw [show (bits9 (tr9 1 st (zs.take j))).set k false = bits9 ((tr9 1 st (zs.take j)).set k 1) by rw [bits9_set]; rfl, ← HNX.out] at HCL
          clear hz hzm z0 z1 hjL hb3 hnk hkl HNX
          go_wp2_with fail
          refine HCL.out.mono ?_
          rintro e w4 ⟨rfl, hal4, ht4⟩
          have P4 := Lib.hid (PP.out.take hal4 ht4 (by rw [len_bits9, len_bits9, len_tr9, len_tr9]))
          have T4 := Lib.hid (TT.out.trans (ht4.mono (T := fun k => k = gr ∨ k = ga) (fun _ _ h => .inr h)))
          have x3 : w4.cell? ⟨p, 2, none⟩ = some (.pointer (some ⟨pa, 0, none⟩)) := P4.out.bx.cell 2
          clear hal4 ht4
          go_wp2_with fail
          refine (HS1.out _ P4.out).mono ?_
          rintro e w5 ⟨rfl, hP5, ht5⟩
          have P5 := Lib.hid hP5
          have T5 := Lib.hid (T4.out.trans ht5)
          clear hP5 ht5
          go_wp2_with fail
          go_roundw
          case rel => exact ⟨j + 1, by omega, by simp [hq], P5.out, T5.out⟩
          case measure => simp [intOf, hq]; omega
        · obtain rfl : j = m := by omega
          have PF : Hid (Pm wr p pd pa ga gr fr (tr9 1 st zs) (bits9 (tr9 1 st zs))) := Lib.hid (by
            have := PP.out
            rw [← HMM.out, List.take_length] at this
            exact this)
          go_wp2_with fail
          go_ret
          exact ⟨rfl, PF.out, TT.out⟩
theorem keep9_q {S : Nat → Prop} {w : World} {p pd fr : Nat} {st : List Nat} {D : Dsk} (h : Pq S w p pd fr st D) (v : Value) (zs : List Int) (hz : Iv S w v zs) (hzl : zs.length ≤ 9223372036854775807) :
    Calls Tryd.prog 19 #[.pointer (some ⟨p, 0, none⟩), v] w fun r w' => r = .returned (.int .i64 (keep9 st zs).2) ∧ ∃ S', Pq S' w' p pd fr (keep9 st zs).1 D ∧ Stp S w S' w' := by
  obtain ⟨pa, ga, gr, SD, hP, hD, hap, rfl, hroom⟩ := h
  refine (keep9_any hP v zs hz ⟨.inr (.inr (.inl rfl)), .inr (.inr (.inr (.inl rfl)))⟩ hzl).mono fun e w' ⟨h1, h2, h3⟩ => ⟨h1, ?_⟩
  refine Pq.mk (SD := SD) h2 (hD.turn h3 (fun k hk h => by rcases h with h | h; exact (hap k hk).2.2.2.1 h; exact (hap k hk).2.2.1 h)) hap ⟨hP.bx.lt, hP.al.ltp, hP.al.ltg, hP.row.lt⟩ (fun k hk => .inl hk) (h3.mono (fun k _ hk => ?_)) ?_
  · rcases hk with h | h
    · exact .inr (.inr (.inr (.inl h)))
    · exact .inr (.inr (.inl h))
  · have : (keep9 st zs).1.length = st.length := by
      unfold keep9
      split
      · split
        · rfl
        · exact len_tr9 _ _ _
      · rfl
    rw [this]; exact hroom
end Go.Proofs.YtmedljnbcpdoeaaDoor
