/- The walk of ambrylaw04.BlockWhole. -/
import Derived.Test.YtdpjjdkfjecihaaBlkN
import Derived.Deep.RegionHeld3
import Derived.BigQuiet
namespace Go.Proofs.Ytdpjjdkfjecihaa
open Go.RowKit Go.Maps
set_option linter.unusedVariables false

theorem info_strs3 : (Try.prog.info? 27).map (fun i => (i.zero, i.size, i.bytes)) = some (some (.slice none 0 0), 1, 24) := by kernel_rfl
theorem info_str3 : (Try.prog.info? 9).map (fun i => (i.zero, i.size, i.bytes)) = some (some (.string ByteArray.empty), 1, 16) := by kernel_rfl
def nils8 : List Value := List.replicate 8 (.slice none 0 0)
theorem make_rows (w : World) : (Instr.makeSlice 54 (.int .i64 8) (.int .i64 8)).run Try.prog w = .ok (.slice (some ⟨w.heap.size, 0, none⟩) 8 8) (w.alloc (.cells nils8.toArray 27)) := by
  obtain ⟨i, hi, hz, hs, hb⟩ := info_parts_ info_strs3
  have := run_make (P := Try.prog) (w := w) 54 27 i _ Try.underlying54 hi hz .i64 .i64 8 8 (by decide) (by decide) (by rw [hb]; decide) (by decide)
  rw [this, hs]
  have e := made_same 1 8 (.slice none 0 0) (by decide)
  simp only [Value.cells]
  rw [show (#[Value.slice none 0 0] : Array Value) = (List.replicate 1 (Value.slice none 0 0)).toArray from rfl]
  exact congrArg (fun c => Result.ok (Value.slice (some ⟨w.heap.size, 0, none⟩) 8 8) (w.alloc (.cells c 27))) e
theorem may_new (w : World) (B : Nat) : May B (w.alloc (.cells nils8.toArray 27)) w.heap.size nils8 (List.replicate 8 []) := by
  have hn : ∀ (i : Nat) (v : Value), nils8[i]? = some v → v = .slice none 0 0 := fun i v hv => by
    unfold nils8 at hv; exact (List.mem_replicate.1 (List.mem_of_getElem? hv)).2
  refine ⟨Blk.new w _ nils8, rfl, rfl, fun i v M hv hM => ?_, fun i j v u b _ hv hu hb => ?_, fun i v hv => ?_⟩
  · rw [hn i v hv, (List.mem_replicate.1 (List.mem_of_getElem? hM)).2]
    exact ⟨rfl, .inl ⟨rfl, rfl⟩⟩
  · rw [hn i v hv] at hb; simp [Value.ownBlock] at hb
  · rw [hn i v hv]; simp [Value.ownBlock]
theorem Lv.may {B : Nat} {w0 a b : World} {S T : Nat → Prop} (h : Lv B w0 S a) (ht : Turn T a b) (hT : ∀ k, T k → B ≤ k) : Lv B w0 S b :=
  ⟨h.1.trans (ht.below h.2.1 hT), Nat.le_trans h.2.1 ht.size, h.2.2⟩
theorem blk_str {w : World} {g t : Nat} {l : List UInt8} (h : Blk w g t (bv l)) (hl : l.length = 128) : (convert 41 9 (.slice (some ⟨g, 0, none⟩) 128 128)).run Try.prog w = .ok (.string ⟨l.toArray⟩) w := by
  have := run_str w 41 9 5 (some ⟨g, 0, none⟩) 128 l Try.underlying41 Try.underlying5 Try.underlying9 fun _ => ⟨_, rfl, fun j d hj => by
    rw [Addr.add_mid, Nat.zero_add, h.cell, bv_at, hj]; rfl⟩
  rw [hl] at this
  exact this
theorem Blk.still_ {w w' : World} {g t : Nat} {cs : List Value} (h : Blk w g t cs) (ht : Turn (fun _ => False) w w') : Blk w' g t cs := h.turn ht (fun h => h)
/-- The texts of a row that has some. -/
theorem row_cells {B : Nat} {w : World} {v : Value} {M : List (List UInt8)} (h : w.ownsRow B 9 1 v M.length (M.map strv)) (hne : M ≠ []) :
    ∃ g cap, v = .slice (some ⟨g, 0, none⟩) M.length cap ∧ ∀ w', Turn (fun _ => False) w w' → ∀ (k : Nat) (x : List UInt8), M[k]? = some x → w'.cell? ⟨g, k, none⟩ = some (.string ⟨x.toArray⟩) := by
  obtain ⟨_, ⟨_, h0⟩ | ⟨g, cap, cur, e, hB, hh, hn, hc, hs, ht⟩⟩ := h
  · exact absurd (List.eq_nil_of_length_eq_zero h0) hne
  · refine ⟨g, cap, e, fun w' htn k x hx => ?_⟩
    have hlt : g < w.heap.size := (Array.getElem?_eq_some_iff.1 hh).1
    rw [World.cell?_of_block (a := ⟨g, k, none⟩) (htn.block g hlt (fun h => h))]
    have hm : (M.map strv)[k]? = some (strv x) := by rw [List.getElem?_map, hx]; rfl
    rw [← ht, List.getElem?_take] at hm
    split at hm
    · simpa [World.cell?, hh, strv] using hm
    · cases hm
set_option maxRecDepth 100000 in
set_option maxHeartbeats 16000000 in
theorem blockWhole_walk (v : Value) (qs : List Acv) (v2 : Value) (ms : List Acv) (v4 : Value) (ks : List Int) (w : World) (ha : Acts w.heap.size w v qs) (hm : Acts w.heap.size w v2 ms) (hk : IvB w.heap.size w v4 ks) :
    Calls Try.prog 5 #[v, v2, v4] w fun e w' => e = .returned (.bool true) ∧ Below w.heap.size w w' := by
  have HB := Lib.hid (begun_any v qs w ha)
  have HM := Lib.hid hm
  have HK := Lib.hid hk
  obtain ⟨A3, cap3, e3, hle3, hr3⟩ := hm
  subst e3
  have hn3 : (ms.length : Int) ≤ 9223372036854775807 := by omega
  clear ha hr3 hk
  by_cases hbig : 50 < ms.length
  · have hb2 : (50 : Int) < (ms.length : Int) := by omega
    clear hbig
    go_enter Try.func5, Try.ntmps5
    go_wp2_with fail
    refine HB.out.mono ?_
    rintro e w1 ⟨p, S1, D, rfl, hd, hl, h8, hp⟩
    have V1 := Lib.hid hl
    clear hd hl h8 hp
    go_wp2_with fail
    refine (lives4_any _).mono ?_
    rintro e w11 ⟨rfl, tl⟩
    go_wp2_with fail
    go_ret
    exact ⟨rfl, V1.out.1.trans (tl.mono V1.out.2.1)⟩
  · have HB2 : Hid ((ms.length : Int) ≤ 50) := Lib.hid (by omega)
    have hb3 : decide ((50 : Int) < (ms.length : Int)) = false := by simp; omega
    have hms := make_rows
    obtain ⟨is_, his, hisz, hiss, hisb⟩ := info_parts_ info_str3
    have HIS := Lib.hid his
    have HISZ := Lib.hid hisz
    have HISS := Lib.hid hiss
    have HISB := Lib.hid hisb
    clear hbig his hisz hiss hisb
    go_enter Try.func5, Try.ntmps5
    go_wp2_with fail
    refine HB.out.mono ?_
    rintro e w1 ⟨p, S1, D1, rfl, hd, hl, h8, hp⟩
    have Q1 := Lib.hid hd
    have V1 := Lib.hid hl
    have H8 := Lib.hid h8
    have HP := Lib.hid hp
    clear hd hl h8 hp
    go_wp2_with fail
    refine (crash_dq Q1.out (by have := HP.out; omega) _ [] (by simp) (iv_nil _ _)).mono ?_
    rintro e w2 ⟨rfl, S2, hq, hs⟩
    have Q2 := Lib.hid hq
    have V2 := Lib.hid (V1.out.step hs)
    obtain ⟨l1, l2, l3, l4⟩ : (D1.crashed []).dead = false ∧ (D1.crashed []).fuse = -1 ∧ (D1.crashed []).kept.length = 8 ∧ (D1.crashed []).pend = [] := ⟨rfl, rfl, (crash_len D1 []).1.trans H8.out, rfl⟩
    have L1 := Lib.hid l1
    have L2 := Lib.hid l2
    have L3 := Lib.hid l3
    have L4 := Lib.hid l4
    generalize D1.crashed [] = D2 at *
    clear hq hs l1 l2 l3 l4
    go_wp2_with fail
    have MN := Lib.hid (may_new w2 w.heap.size)
    have TN : Hid (Turn (fun _ => False) w2 (w2.alloc (.cells nils8.toArray 27))) := Lib.hid ((Turn.refl _ _).alloc _)
    have AN : Hid (Aside_ S2 w2.heap.size nils8) := Lib.hid ⟨fun h => absurd (Q2.out.lt _ h) (Nat.lt_irrefl _), fun i v b hv hb => (by
      unfold nils8 at hv
      rw [(List.mem_replicate.1 (List.mem_of_getElem? hv)).2] at hb
      simp [Value.ownBlock] at hb)⟩
    have GB : Hid (w.heap.size ≤ w2.heap.size) := Lib.hid V2.out.2.1
    obtain ⟨gy, hgy⟩ : ∃ g, w2.heap.size = g := ⟨_, rfl⟩
    rw [hgy] at MN AN GB
    try rw [hgy]
    clear hms
    go_loopw [9] (fun i wr => ∃ j : Nat, j ≤ 8 ∧ i = .int .i64 j ∧ ∃ vs Ms, May w.heap.size wr gy vs Ms ∧ Aside_ S2 gy vs ∧ Dq S2 wr p D2 ∧ Lv w.heap.size w S2 wr ∧ ∀ (i : Nat) (M : List (List UInt8)), Ms[i]? = some M → (i < j → D2.kept.getD i [] ∈ M) ∧ M.length ≤ j) (fun i _ => 8 - (intOf i).toNat)
    case atStart => exact ⟨0, by omega, rfl, nils8, _, MN.out, AN.out, Q2.out.still TN.out, V2.out.still TN.out, fun i M hM => ⟨fun h => absurd h (by omega), by rw [(List.mem_replicate.1 (List.mem_of_getElem? hM)).2]; simp⟩⟩
    case round =>
      obtain ⟨j, hj, rfl, vs, Ms, hmay, hasd, hd, hl, hall⟩ := hrel
      have QJ := Lib.hid hd
      have VJ := Lib.hid hl
      have MJ := Lib.hid hmay
      have AJ := Lib.hid hasd
      have HALL := Lib.hid hall
      clear hd hl hmay hasd hall
      by_cases hlt : j < 8
      · have c1 : (j : Int) < 8 := by omega
        have hh : D2.has j = D2.kept.getD j [] := by unfold Dsk.has; rw [L4.out]; rfl
        have HH := Lib.hid hh
        have TL : Hid ((D2.kept.getD j []).length = 128) := Lib.hid (QJ.out.1.kept_at (by rw [L3.out]; exact hlt))
        clear hh
        go_wp2_with fail
        refine (read_dq QJ.out j (by rw [L3.out]; exact hlt) L1.out).mono ?_
        rintro e w3 ⟨rfl, hb3, ht3⟩
        rw [HH.out] at hb3
        obtain ⟨t, htt⟩ : ∃ t, D2.kept.getD j [] = t := ⟨_, rfl⟩
        have HTT := Lib.hid htt
        rw [htt] at hb3 TL
        have B3 := Lib.hid hb3
        have M3 := Lib.hid (MJ.out.still ht3)
        have Q3 := Lib.hid (QJ.out.still ht3)
        have V3 := Lib.hid (VJ.out.still ht3)
        have Z3 := Lib.hid ht3.size
        obtain ⟨gr, hgr⟩ : ∃ g, wr.heap.size = g := ⟨_, rfl⟩
        rw [hgr] at B3
        try rw [hgr]
        clear htt hb3 ht3
        obtain ⟨vj, hvj⟩ : ∃ x, vs[j]? = some x := ⟨_, List.getElem?_eq_getElem (by rw [M3.out.len]; exact hlt)⟩
        obtain ⟨Mj, hMj⟩ : ∃ x, Ms[j]? = some x := ⟨_, List.getElem?_eq_getElem (by rw [M3.out.lenM]; exact hlt)⟩
        have hown := M3.out.own j vj Mj hvj hMj
        have HOW := Lib.hid hown
        have HVJ := Lib.hid hvj
        have HMJ := Lib.hid hMj
        have d0 : w3.cell? ⟨gy, j, none⟩ = some vj := (M3.out.blk.cell j).trans hvj
        have df : w3.frozen? ⟨gy, j, none⟩ = false := M3.out.blk.free j
        have hgylt : gy < w3.heap.size := M3.out.blk.lt
        have hcs : ∀ w', Blk w' gr 68 (bv t) → (convert 41 9 (.slice (some ⟨gr, 0, none⟩) 128 128)).run Try.prog w' = .ok (.string ⟨t.toArray⟩) w' := fun w' h => blk_str h TL.out
        clear hown hvj hMj hlt
        go_wp2_with fail
        have HNEW : Hid (∀ (q : Nat) (u : Value), [strv t][q]? = some u → (World.alloc (World.drew w3) (.cells #[.string ⟨t.toArray⟩] 9)).cell? ((⟨w3.heap.size, 0, none⟩ : Addr).add q) = some u) := Lib.hid (new_cell (World.drew w3) 9 (strv t))
        have hone : ∀ u ∈ [strv t], u.oneCell' = true := fun u hu => by simp at hu; subst hu; rfl
        have hM8 : Mj.length ≤ 8 := by have := (HALL.out j Mj HMJ.out).2; omega
        have A3_ := Lib.hid AJ.out
        have hgrgy : gr ≠ gy := by have := MJ.out.blk.lt; omega
        have hvgr : vj.ownBlock ≠ some gr := fun e => by have := (MJ.out.lt HVJ.out e).2; omega
        refine wp_region_held_drew (S := (fun w' => Blk w' gr 68 (bv t))) (by kernel_rfl) ?_ (fun hHeld => ?_)
        · exact B3.out.drew
        refine wpAnyH_take (i := 0) (v := .slice (some ⟨gy, 0, none⟩) 8 8) rfl (by kernel_rfl) (by kernel_rfl) (by kernel_rfl) (fun _ _ _ h => h) (Or.inl ⟨by rfl, ?_⟩) (by assumption) ?_
        · intro w' hSw
          go_simp
        try simp only [List.getElem_toArray, List.getElem_cons_zero, Act.put, List.setIfInBounds_toArray, List.set_cons_zero, List.set_cons_succ]
        refine wpAnyH_take (i := 1) (v := .int .i64 (j : Int)) rfl (by kernel_rfl) (by kernel_rfl) (by kernel_rfl) (fun _ _ _ h => h) (Or.inl ⟨by rfl, ?_⟩) (by assumption) ?_
        · intro w' hSw
          go_simp
        try simp only [List.getElem_toArray, List.getElem_cons_zero, List.getElem_cons_succ, Act.put, List.setIfInBounds_toArray, List.set_cons_zero, List.set_cons_succ]
        refine wpAnyH_take (i := 2) (v := .slice (some ⟨gy, 0, none⟩) 8 8) rfl (by kernel_rfl) (by kernel_rfl) (by kernel_rfl) (fun _ _ _ h => h) (Or.inl ⟨by rfl, ?_⟩) (by assumption) ?_
        · intro w' hSw
          go_simp
        try simp only [List.getElem_toArray, List.getElem_cons_zero, List.getElem_cons_succ, Act.put, List.setIfInBounds_toArray, List.set_cons_zero, List.set_cons_succ]
        refine wpAnyH_take (i := 3) (v := .int .i64 (j : Int)) rfl (by kernel_rfl) (by kernel_rfl) (by kernel_rfl) (fun _ _ _ h => h) (Or.inl ⟨by rfl, ?_⟩) (by assumption) ?_
        · intro w' hSw
          go_simp
        try simp only [List.getElem_toArray, List.getElem_cons_zero, List.getElem_cons_succ, Act.put, List.setIfInBounds_toArray, List.set_cons_zero, List.set_cons_succ]
        refine wpAnyH_take (i := 4) (v := .pointer (some ⟨gy, j, none⟩)) rfl (by kernel_rfl) (by kernel_rfl) (by kernel_rfl) (fun _ _ _ h => h) (Or.inl ⟨by rfl, ?_⟩) (by assumption) ?_
        · intro w' hSw
          go_simp
        try simp only [List.getElem_toArray, List.getElem_cons_zero, List.getElem_cons_succ, Act.put, List.setIfInBounds_toArray, List.set_cons_zero, List.set_cons_succ]
        refine wpAnyH_take (i := 6) (v := .slice (some ⟨gr, 0, none⟩) 128 128) rfl (by kernel_rfl) (by kernel_rfl) (by kernel_rfl) (fun _ _ _ h => h) (Or.inl ⟨by rfl, ?_⟩) (by assumption) ?_
        · intro w' hSw
          go_simp
        try simp only [List.getElem_toArray, List.getElem_cons_zero, List.getElem_cons_succ, Act.put, List.setIfInBounds_toArray, List.set_cons_zero, List.set_cons_succ]
        refine wpAnyH_take (i := 7) (v := .string ⟨t.toArray⟩) rfl (by kernel_rfl) (by kernel_rfl) (by kernel_rfl) (fun _ _ _ h => h) (Or.inl ⟨by rfl, ?_⟩) (by assumption) ?_
        · intro w' hSw
          go_simp
        try simp only [List.getElem_toArray, List.getElem_cons_zero, List.getElem_cons_succ, Act.put, List.setIfInBounds_toArray, List.set_cons_zero, List.set_cons_succ]
        refine wpAnyH_ready (rs := [5, 8]) (by kernel_rfl) (by simp) ?_
        refine AllReadyH.cons rfl (fun K hK => ?_) (AllReadyH.cons rfl (fun K hK => ?_) AllReadyH.nil)
        · go_simp
          refine hK.out _ _ B3.out.drew (fun hHeld => ?_)
          clear hK K
          try simp only [List.getElem_toArray, List.getElem_cons_zero, List.getElem_cons_succ, Act.put, List.setIfInBounds_toArray, List.set_cons_zero, List.set_cons_succ]
          refine wpAnyH_ready (rs := [8]) (by kernel_rfl) (by simp) ?_
          refine AllReadyH.cons rfl (fun K hK => ?_) AllReadyH.nil
          go_simp
          refine hK.out _ _ (B3.out.drew.alloc _) (fun hHeld => ?_)
          clear hK K
          try simp only [List.getElem_toArray, List.getElem_cons_zero, List.getElem_cons_succ, Act.put, List.setIfInBounds_toArray, List.set_cons_zero, List.set_cons_succ]
          refine wpAnyH_ready (rs := [9]) (by kernel_rfl) (by simp) ?_
          refine AllReadyH.cons rfl (fun K hK => ?_) AllReadyH.nil
          refine step_append_lies _ rfl _ _ 27 rfl w.heap.size 9 is_ _ 1 16 Try.underlying27 HIS.out HISZ.out HISS.out HISB.out (by rfl) (by decide) vj Mj.length (Mj.map strv) rfl (ownsRow_alloc HOW.out _) ⟨w3.heap.size, 0, none⟩ 1 1 [strv t] rfl rfl HNEW.out hone (by decide) (by unfold maxLen; omega) (by omega) (by have := V3.out.2.1; simp; omega) (w3.heap.size + 1) (by simp) ?_
          intro g6 cap6 w6 ho6 hg6 hl6 hz6
          have HO6 := Lib.hid ho6
          have T6 := Lib.hid (turn_grown_ hg6)
          have HL6 := Lib.hid hl6
          have B6 : Blk w6 gr 68 (bv t) := (B3.out.drew.alloc _).turn T6.out hvgr
          have y1 : w6.cell? ⟨gy, j, none⟩ = some vj := ((M3.out.blk.drew.alloc _).turn T6.out (M3.out.far j vj HVJ.out)).cell j |>.trans HVJ.out
          have y2 : w6.frozen? ⟨gy, j, none⟩ = false := ((M3.out.blk.drew.alloc _).turn T6.out (M3.out.far j vj HVJ.out)).free j
          have HB6 := Lib.hid B6
          clear ho6 hg6 hl6 B6
          refine hK.out _ _ HB6.out (fun hHeld => ?_)
          clear hK K
          try simp only [List.getElem_toArray, List.getElem_cons_zero, List.getElem_cons_succ, Act.put, List.setIfInBounds_toArray, List.set_cons_zero, List.set_cons_succ]
          refine wpAnyH_take (i := 10) (v := .pointer (some ⟨gy, j, none⟩)) rfl (by kernel_rfl) (by kernel_rfl) (by kernel_rfl) (fun _ _ _ h => h) (Or.inl ⟨by rfl, ?_⟩) (by assumption) ?_
          · intro w' hSw
            go_simp
          try simp only [List.getElem_toArray, List.getElem_cons_zero, List.getElem_cons_succ, Act.put, List.setIfInBounds_toArray, List.set_cons_zero, List.set_cons_succ]
          refine wpAnyH_ready (rs := [11]) (by kernel_rfl) (by simp) ?_
          refine AllReadyH.cons rfl (fun K hK => ?_) AllReadyH.nil
          go_simp
          refine hK.out _ _ (HB6.out.far hgrgy _) (fun hHeld => ?_)
          clear hK K
          refine wpAnyH_done (by kernel_rfl) ?_ _
          obtain ⟨hmay7, hasd7, ht7⟩ := may_push M3.out A3_.out Q3.out.lt HVJ.out HMJ.out t _ (g := g6) (cap := cap6) V3.out.2.1 HO6.out T6.out HL6.out
          have M7 := Lib.hid hmay7
          have A7 := Lib.hid hasd7
          have T7 := Lib.hid ht7
          clear hmay7 hasd7 ht7 hHeld y1 y2
          go_wp2
          go_roundw
          case rel =>
            refine ⟨j + 1, by omega, by go_num, _, _, M7.out, A7.out, Q3.out.turn T7.out (fun k hk e => e.elim (fun e => A3_.out.1 (e ▸ hk)) (fun e => A3_.out.2 _ _ _ HVJ.out e hk)), V3.out.may T7.out (fun k e => e.elim (fun e => by rw [e]; exact GB.out) (fun e => (M3.out.lt HVJ.out e).1)), fun i N hN => ?_⟩
            rw [List.getElem?_set] at hN
            by_cases e : j = i
            · subst e
              rw [if_pos rfl, if_pos (by rw [M3.out.lenM]; omega)] at hN
              injection hN with hN
              subst hN
              exact ⟨fun _ => by rw [HTT.out]; simp, by have := (HALL.out j Mj HMJ.out).2; simp; omega⟩
            · rw [if_neg e] at hN
              have := HALL.out i N hN
              exact ⟨fun h => this.1 (by omega), by omega⟩
          case measure => simp [intOf]; omega
        · go_simp
          refine hK.out _ _ (B3.out.drew.alloc _) (fun hHeld => ?_)
          clear hK K
          try simp only [List.getElem_toArray, List.getElem_cons_zero, List.getElem_cons_succ, Act.put, List.setIfInBounds_toArray, List.set_cons_zero, List.set_cons_succ]
          refine wpAnyH_ready (rs := [5]) (by kernel_rfl) (by simp) ?_
          refine AllReadyH.cons rfl (fun K hK => ?_) AllReadyH.nil
          go_simp
          refine hK.out _ _ (B3.out.drew.alloc _) (fun hHeld => ?_)
          clear hK K
          try simp only [List.getElem_toArray, List.getElem_cons_zero, List.getElem_cons_succ, Act.put, List.setIfInBounds_toArray, List.set_cons_zero, List.set_cons_succ]
          refine wpAnyH_ready (rs := [9]) (by kernel_rfl) (by simp) ?_
          refine AllReadyH.cons rfl (fun K hK => ?_) AllReadyH.nil
          refine step_append_lies _ rfl _ _ 27 rfl w.heap.size 9 is_ _ 1 16 Try.underlying27 HIS.out HISZ.out HISS.out HISB.out (by rfl) (by decide) vj Mj.length (Mj.map strv) rfl (ownsRow_alloc HOW.out _) ⟨w3.heap.size, 0, none⟩ 1 1 [strv t] rfl rfl HNEW.out hone (by decide) (by unfold maxLen; omega) (by omega) (by have := V3.out.2.1; simp; omega) (w3.heap.size + 1) (by simp) ?_
          intro g6 cap6 w6 ho6 hg6 hl6 hz6
          have HO6 := Lib.hid ho6
          have T6 := Lib.hid (turn_grown_ hg6)
          have HL6 := Lib.hid hl6
          have B6 : Blk w6 gr 68 (bv t) := (B3.out.drew.alloc _).turn T6.out hvgr
          have y1 : w6.cell? ⟨gy, j, none⟩ = some vj := ((M3.out.blk.drew.alloc _).turn T6.out (M3.out.far j vj HVJ.out)).cell j |>.trans HVJ.out
          have y2 : w6.frozen? ⟨gy, j, none⟩ = false := ((M3.out.blk.drew.alloc _).turn T6.out (M3.out.far j vj HVJ.out)).free j
          have HB6 := Lib.hid B6
          clear ho6 hg6 hl6 B6
          refine hK.out _ _ HB6.out (fun hHeld => ?_)
          clear hK K
          try simp only [List.getElem_toArray, List.getElem_cons_zero, List.getElem_cons_succ, Act.put, List.setIfInBounds_toArray, List.set_cons_zero, List.set_cons_succ]
          refine wpAnyH_take (i := 10) (v := .pointer (some ⟨gy, j, none⟩)) rfl (by kernel_rfl) (by kernel_rfl) (by kernel_rfl) (fun _ _ _ h => h) (Or.inl ⟨by rfl, ?_⟩) (by assumption) ?_
          · intro w' hSw
            go_simp
          try simp only [List.getElem_toArray, List.getElem_cons_zero, List.getElem_cons_succ, Act.put, List.setIfInBounds_toArray, List.set_cons_zero, List.set_cons_succ]
          refine wpAnyH_ready (rs := [11]) (by kernel_rfl) (by simp) ?_
          refine AllReadyH.cons rfl (fun K hK => ?_) AllReadyH.nil
          go_simp
          refine hK.out _ _ (HB6.out.far hgrgy _) (fun hHeld => ?_)
          clear hK K
          refine wpAnyH_done (by kernel_rfl) ?_ _
          obtain ⟨hmay7, hasd7, ht7⟩ := may_push M3.out A3_.out Q3.out.lt HVJ.out HMJ.out t _ (g := g6) (cap := cap6) V3.out.2.1 HO6.out T6.out HL6.out
          have M7 := Lib.hid hmay7
          have A7 := Lib.hid hasd7
          have T7 := Lib.hid ht7
          clear hmay7 hasd7 ht7 hHeld y1 y2
          go_wp2
          go_roundw
          case rel =>
            refine ⟨j + 1, by omega, by go_num, _, _, M7.out, A7.out, Q3.out.turn T7.out (fun k hk e => e.elim (fun e => A3_.out.1 (e ▸ hk)) (fun e => A3_.out.2 _ _ _ HVJ.out e hk)), V3.out.may T7.out (fun k e => e.elim (fun e => by rw [e]; exact GB.out) (fun e => (M3.out.lt HVJ.out e).1)), fun i N hN => ?_⟩
            rw [List.getElem?_set] at hN
            by_cases e : j = i
            · subst e
              rw [if_pos rfl, if_pos (by rw [M3.out.lenM]; omega)] at hN
              injection hN with hN
              subst hN
              exact ⟨fun _ => by rw [HTT.out]; simp, by have := (HALL.out j Mj HMJ.out).2; simp; omega⟩
            · rw [if_neg e] at hN
              have := HALL.out i N hN
              exact ⟨fun h => this.1 (by omega), by omega⟩
          case measure => simp [intOf]; omega
      · have hj8 : j = 8 := by omega
        have e8 : (j : Int) = 8 := by omega
        rw [e8]
        have WH0 : Hid (Wh Ms D2) := Lib.hid ⟨L3.out, L1.out, L2.out, fun i M hM hi => (HALL.out i M hM).1 (by omega), fun x hx => by rw [L4.out] at hx; cases hx⟩
        have HLB : Hid (∀ (i : Nat) (M : List (List UInt8)), Ms[i]? = some M → M.length ≤ 8) := Lib.hid (fun i M hM => by have := (HALL.out i M hM).2; omega)
        have P0 : Hid (D2.pend.length ≤ 0) := Lib.hid (by rw [L4.out]; simp)
        clear hlt hj8 e8 hj
        go_wp2_with fail
        go_loopw [12] (fun i wr => ∃ j : Nat, j ≤ ms.length ∧ i = .int .i64 j ∧ ∃ S D vs Ms, May w.heap.size wr gy vs Ms ∧ Aside_ S gy vs ∧ Dq S wr p D ∧ Lv w.heap.size w S wr ∧ Wh Ms D ∧ D.pend.length ≤ j ∧ ∀ (i : Nat) (M : List (List UInt8)), Ms[i]? = some M → M.length ≤ 8 + j) (fun i _ => ms.length - (intOf i).toNat)
        case atStart => exact ⟨0, Nat.zero_le _, rfl, S2, D2, vs, Ms, MJ.out, AJ.out, QJ.out, VJ.out, WH0.out, P0.out, HLB.out⟩
        case round =>
          obtain ⟨j, hj, rfl, S, D, vs2, Ms2, hmay, hasd, hd, hl, hwh, hpj, hall⟩ := hrel
          have QK := Lib.hid hd
          have VK := Lib.hid hl
          have MK := Lib.hid hmay
          have AK := Lib.hid hasd
          have WK := Lib.hid hwh
          have HPJ := Lib.hid hpj
          have HAL2 := Lib.hid hall
          by_cases hlt : j < ms.length
          · obtain ⟨a, haj⟩ : ∃ a, ms[j]? = some a := ⟨_, List.getElem?_eq_getElem hlt⟩
            obtain ⟨A2, cap2, e2, _, hr⟩ := HM.out.below hl.1 (Nat.le_refl _)
            obtain ⟨b, o, eA, hbB, hc⟩ := hr (by omega)
            injection e2 with e2 e2b e2c
            rw [eA] at e2
            subst e2 e2c
            clear e2b
            obtain ⟨⟨h0, h1, h2, h3⟩, hiv, hi0, hi1⟩ := hc j a haj
            obtain ⟨ak, ai, as_, av, az⟩ := a
            simp only at h0 h1 h2 h3 hiv hi0 hi1
            obtain ⟨m, hm8, hme⟩ := at_is ai
            have HM8 := Lib.hid hm8
            have g1 : (j : Int) < (ms.length : Int) := by omega
            have hp1 : Hid (D.pend.length < 1000000000) := Lib.hid (by have := HB2.out; omega)
            have hj50 : Hid (j < 50) := Lib.hid (by have := HB2.out; omega)
            have hsz : as_.data.toList.length = as_.size := by simp
            have hm8i : (m : Int) < 8 := by omega
            have hm0i : (0 : Int) ≤ (m : Int) := Int.natCast_nonneg _
            clear hd hl hmay hasd hwh hpj hall hr hc hlt haj hle3 h0 h3 hiv hi0 hi1
            by_cases hbg : 128 < as_.size
            · have HW5 := Lib.hid (wh_big WK.out m hm8 as_.data.toList (by omega))
              clear hbg hsz hm8
              go_wp2_with (first
                | (refine wpList_conv_by rfl _ rfl S as_ rfl QK.out.lt ?_; intro v9 w9 hby ht9; have HBY2 := Lib.hid hby; have T92 := Lib.hid ht9; clear hby ht9)
                | (go_at_call 20; have hwq := write_dq (QK.out.still T92.out) m _ as_.data.toList HBY2.out hp1.out; rw [HW5.out] at hwq; refine hwq.mono ?_; rintro e w5 ⟨rfl, S', hq, hs⟩; have Q5 := Lib.hid hq; have V5 := Lib.hid ((VK.out.still T92.out).step hs); have M5 := Lib.hid ((MK.out.still T92.out).step AK.out hs); clear hq hs hwq))
              go_roundw
              case rel => exact ⟨j + 1, by omega, by go_num, S', _, vs2, Ms2, M5.out.1, M5.out.2, Q5.out, V5.out, WK.out, by have := HPJ.out; omega, fun i N hN => by have := HAL2.out i N hN; omega⟩
              case measure => simp [intOf]; omega
            · obtain ⟨vj, hvj⟩ : ∃ x, vs2[m]? = some x := ⟨_, List.getElem?_eq_getElem (by rw [MK.out.len]; exact hm8)⟩
              obtain ⟨Mj, hMj⟩ : ∃ x, Ms2[m]? = some x := ⟨_, List.getElem?_eq_getElem (by rw [MK.out.lenM]; exact hm8)⟩
              have HW5 := Lib.hid (wh_write WK.out m hm8 as_.data.toList (by omega) hMj MK.out.lenM)
              have TL : Hid ((full as_.data.toList).length = 128) := Lib.hid (len_full (by omega))
              have HVJ := Lib.hid hvj
              have HMJ := Lib.hid hMj
              clear hbg hsz hm8 hvj hMj
              go_wp2_with (first
                | (refine wpList_conv_by rfl _ rfl S as_ rfl QK.out.lt ?_; intro v9 w9 hby ht9; have HBY2 := Lib.hid hby; have T92 := Lib.hid ht9; clear hby ht9)
                | (go_at_call 20; have hwq := write_dq (QK.out.still T92.out) m _ as_.data.toList HBY2.out hp1.out; rw [HW5.out.1] at hwq; refine hwq.mono ?_; rintro e w5 ⟨rfl, S', hq, hs⟩; have Q5 := Lib.hid hq; have V5 := Lib.hid ((VK.out.still T92.out).step hs); have M5 := Lib.hid ((MK.out.still T92.out).step AK.out hs); clear hq hs hwq)
                | fail)
              refine (read_dq Q5.out m (by rw [HW5.out.2.2.1]; exact HM8.out) HW5.out.2.2.2.1).mono ?_
              rintro e w6 ⟨rfl, hb6, ht6⟩
              rw [HW5.out.2.1] at hb6
              obtain ⟨t, ht⟩ : ∃ t, full as_.data.toList = t := ⟨_, rfl⟩
              rw [ht] at hb6 TL HW5
              have B3 := Lib.hid hb6
              have M3 := Lib.hid (M5.out.1.still ht6)
              have A3_ := Lib.hid M5.out.2
              have Q3 := Lib.hid (Q5.out.still ht6)
              have V3 := Lib.hid (V5.out.still ht6)
              obtain ⟨gr, hgr⟩ : ∃ g, w5.heap.size = g := ⟨_, rfl⟩
              have hgrgy : gr ≠ gy := by have := M5.out.1.blk.lt; omega
              have hvgr : vj.ownBlock ≠ some gr := fun e => by have := (M5.out.1.lt HVJ.out e).2; omega
              rw [hgr] at B3
              try rw [hgr]
              clear ht hb6 ht6
              have HOW := Lib.hid (M3.out.own m vj Mj HVJ.out HMJ.out)
              have d0 : w6.cell? ⟨gy, m, none⟩ = some vj := (M3.out.blk.cell m).trans HVJ.out
              have df : w6.frozen? ⟨gy, m, none⟩ = false := M3.out.blk.free m
              have hgylt : gy < w6.heap.size := M3.out.blk.lt
              have hcs : ∀ w', Blk w' gr 68 (bv t) → (convert 41 9 (.slice (some ⟨gr, 0, none⟩) 128 128)).run Try.prog w' = .ok (.string ⟨t.toArray⟩) w' := fun w' h => blk_str h TL.out
              go_wp2_with fail
              have HNEW : Hid (∀ (q : Nat) (u : Value), [strv t][q]? = some u → (World.alloc (World.drew w6) (.cells #[.string ⟨t.toArray⟩] 9)).cell? ((⟨w6.heap.size, 0, none⟩ : Addr).add q) = some u) := Lib.hid (new_cell (World.drew w6) 9 (strv t))
              have hone : ∀ u ∈ [strv t], u.oneCell' = true := fun u hu => by simp at hu; subst hu; rfl
              have hM8 : Mj.length ≤ 58 := by have := HAL2.out m Mj HMJ.out; have := hj50.out; omega
              refine wp_region_held_drew (S := (fun w' => Blk w' gr 68 (bv t))) (by kernel_rfl) ?_ (fun hHeld => ?_)
              · exact B3.out.drew
              refine wpAnyH_take (i := 0) (v := .slice (some ⟨gy, 0, none⟩) 8 8) rfl (by kernel_rfl) (by kernel_rfl) (by kernel_rfl) (fun _ _ _ h => h) (Or.inl ⟨by rfl, ?_⟩) (by assumption) ?_
              · intro w' hSw
                go_simp
              try simp only [List.getElem_toArray, List.getElem_cons_zero, Act.put, List.setIfInBounds_toArray, List.set_cons_zero, List.set_cons_succ]
              refine wpAnyH_take (i := 1) (v := .int .i64 (m : Int)) rfl (by kernel_rfl) (by kernel_rfl) (by kernel_rfl) (fun _ _ _ h => h) (Or.inl ⟨by rfl, ?_⟩) (by assumption) ?_
              · intro w' hSw
                go_simp
              try simp only [List.getElem_toArray, List.getElem_cons_zero, List.getElem_cons_succ, Act.put, List.setIfInBounds_toArray, List.set_cons_zero, List.set_cons_succ]
              refine wpAnyH_take (i := 2) (v := .slice (some ⟨gy, 0, none⟩) 8 8) rfl (by kernel_rfl) (by kernel_rfl) (by kernel_rfl) (fun _ _ _ h => h) (Or.inl ⟨by rfl, ?_⟩) (by assumption) ?_
              · intro w' hSw
                go_simp
              try simp only [List.getElem_toArray, List.getElem_cons_zero, List.getElem_cons_succ, Act.put, List.setIfInBounds_toArray, List.set_cons_zero, List.set_cons_succ]
              refine wpAnyH_take (i := 3) (v := .int .i64 (m : Int)) rfl (by kernel_rfl) (by kernel_rfl) (by kernel_rfl) (fun _ _ _ h => h) (Or.inl ⟨by rfl, ?_⟩) (by assumption) ?_
              · intro w' hSw
                go_simp
              try simp only [List.getElem_toArray, List.getElem_cons_zero, List.getElem_cons_succ, Act.put, List.setIfInBounds_toArray, List.set_cons_zero, List.set_cons_succ]
              refine wpAnyH_take (i := 4) (v := .pointer (some ⟨gy, m, none⟩)) rfl (by kernel_rfl) (by kernel_rfl) (by kernel_rfl) (fun _ _ _ h => h) (Or.inl ⟨by rfl, ?_⟩) (by assumption) ?_
              · intro w' hSw
                go_simp
              try simp only [List.getElem_toArray, List.getElem_cons_zero, List.getElem_cons_succ, Act.put, List.setIfInBounds_toArray, List.set_cons_zero, List.set_cons_succ]
              refine wpAnyH_take (i := 6) (v := .slice (some ⟨gr, 0, none⟩) 128 128) rfl (by kernel_rfl) (by kernel_rfl) (by kernel_rfl) (fun _ _ _ h => h) (Or.inl ⟨by rfl, ?_⟩) (by assumption) ?_
              · intro w' hSw
                go_simp
              try simp only [List.getElem_toArray, List.getElem_cons_zero, List.getElem_cons_succ, Act.put, List.setIfInBounds_toArray, List.set_cons_zero, List.set_cons_succ]
              refine wpAnyH_take (i := 7) (v := .string ⟨t.toArray⟩) rfl (by kernel_rfl) (by kernel_rfl) (by kernel_rfl) (fun _ _ _ h => h) (Or.inl ⟨by rfl, ?_⟩) (by assumption) ?_
              · intro w' hSw
                go_simp
              try simp only [List.getElem_toArray, List.getElem_cons_zero, List.getElem_cons_succ, Act.put, List.setIfInBounds_toArray, List.set_cons_zero, List.set_cons_succ]
              refine wpAnyH_ready (rs := [5, 8]) (by kernel_rfl) (by simp) ?_
              refine AllReadyH.cons rfl (fun K hK => ?_) (AllReadyH.cons rfl (fun K hK => ?_) AllReadyH.nil)
              · go_simp
                refine hK.out _ _ B3.out.drew (fun hHeld => ?_)
                clear hK K
                try simp only [List.getElem_toArray, List.getElem_cons_zero, List.getElem_cons_succ, Act.put, List.setIfInBounds_toArray, List.set_cons_zero, List.set_cons_succ]
                refine wpAnyH_ready (rs := [8]) (by kernel_rfl) (by simp) ?_
                refine AllReadyH.cons rfl (fun K hK => ?_) AllReadyH.nil
                go_simp
                refine hK.out _ _ (B3.out.drew.alloc _) (fun hHeld => ?_)
                clear hK K
                try simp only [List.getElem_toArray, List.getElem_cons_zero, List.getElem_cons_succ, Act.put, List.setIfInBounds_toArray, List.set_cons_zero, List.set_cons_succ]
                refine wpAnyH_ready (rs := [9]) (by kernel_rfl) (by simp) ?_
                refine AllReadyH.cons rfl (fun K hK => ?_) AllReadyH.nil
                refine step_append_lies _ rfl _ _ 27 rfl w.heap.size 9 is_ _ 1 16 Try.underlying27 HIS.out HISZ.out HISS.out HISB.out (by rfl) (by decide) vj Mj.length (Mj.map strv) rfl (ownsRow_alloc HOW.out _) ⟨w6.heap.size, 0, none⟩ 1 1 [strv t] rfl rfl HNEW.out hone (by decide) (by unfold maxLen; omega) (by omega) (by have := V3.out.2.1; simp; omega) (w6.heap.size + 1) (by simp) ?_
                intro g6 cap6 w6 ho6 hg6 hl6 hz6
                have HO6 := Lib.hid ho6
                have T6 := Lib.hid (turn_grown_ hg6)
                have HL6 := Lib.hid hl6
                have B6 : Blk w6 gr 68 (bv t) := (B3.out.drew.alloc _).turn T6.out hvgr
                have y1 : w6.cell? ⟨gy, m, none⟩ = some vj := ((M3.out.blk.drew.alloc _).turn T6.out (M3.out.far m vj HVJ.out)).cell m |>.trans HVJ.out
                have y2 : w6.frozen? ⟨gy, m, none⟩ = false := ((M3.out.blk.drew.alloc _).turn T6.out (M3.out.far m vj HVJ.out)).free m
                have HB6 := Lib.hid B6
                clear ho6 hg6 hl6 B6
                refine hK.out _ _ HB6.out (fun hHeld => ?_)
                clear hK K
                try simp only [List.getElem_toArray, List.getElem_cons_zero, List.getElem_cons_succ, Act.put, List.setIfInBounds_toArray, List.set_cons_zero, List.set_cons_succ]
                refine wpAnyH_take (i := 10) (v := .pointer (some ⟨gy, m, none⟩)) rfl (by kernel_rfl) (by kernel_rfl) (by kernel_rfl) (fun _ _ _ h => h) (Or.inl ⟨by rfl, ?_⟩) (by assumption) ?_
                · intro w' hSw
                  go_simp
                try simp only [List.getElem_toArray, List.getElem_cons_zero, List.getElem_cons_succ, Act.put, List.setIfInBounds_toArray, List.set_cons_zero, List.set_cons_succ]
                refine wpAnyH_ready (rs := [11]) (by kernel_rfl) (by simp) ?_
                refine AllReadyH.cons rfl (fun K hK => ?_) AllReadyH.nil
                go_simp
                refine hK.out _ _ (HB6.out.far hgrgy _) (fun hHeld => ?_)
                clear hK K
                refine wpAnyH_done (by kernel_rfl) ?_ _
                obtain ⟨hmay7, hasd7, ht7⟩ := may_push M3.out A3_.out Q3.out.lt HVJ.out HMJ.out t _ (g := g6) (cap := cap6) V3.out.2.1 HO6.out T6.out HL6.out
                have M7 := Lib.hid hmay7
                have A7 := Lib.hid hasd7
                have T7 := Lib.hid ht7
                clear hmay7 hasd7 ht7 hHeld y1 y2
                go_wp2
                go_roundw
                case rel =>
                  refine ⟨j + 1, by omega, by go_num, S', _, _, _, M7.out, A7.out, Q3.out.turn T7.out (fun k hk e => e.elim (fun e => A3_.out.1 (e ▸ hk)) (fun e => A3_.out.2 _ _ _ HVJ.out e hk)), V3.out.may T7.out (fun k e => e.elim (fun e => by rw [e]; exact GB.out) (fun e => (M3.out.lt HVJ.out e).1)), HW5.out.2.2.2.2.2, by rw [HW5.out.2.2.2.2.1]; have := HPJ.out; omega, fun i N hN => ?_⟩
                  rw [List.getElem?_set] at hN
                  by_cases e : m = i
                  · subst e
                    rw [if_pos rfl, if_pos (by rw [M3.out.lenM]; omega)] at hN
                    injection hN with hN
                    subst hN
                    have := HAL2.out m Mj HMJ.out
                    simp; omega
                  · rw [if_neg e] at hN
                    have := HAL2.out i N hN
                    omega
                case measure => simp [intOf]; omega
              · go_simp
                refine hK.out _ _ (B3.out.drew.alloc _) (fun hHeld => ?_)
                clear hK K
                try simp only [List.getElem_toArray, List.getElem_cons_zero, List.getElem_cons_succ, Act.put, List.setIfInBounds_toArray, List.set_cons_zero, List.set_cons_succ]
                refine wpAnyH_ready (rs := [5]) (by kernel_rfl) (by simp) ?_
                refine AllReadyH.cons rfl (fun K hK => ?_) AllReadyH.nil
                go_simp
                refine hK.out _ _ (B3.out.drew.alloc _) (fun hHeld => ?_)
                clear hK K
                try simp only [List.getElem_toArray, List.getElem_cons_zero, List.getElem_cons_succ, Act.put, List.setIfInBounds_toArray, List.set_cons_zero, List.set_cons_succ]
                refine wpAnyH_ready (rs := [9]) (by kernel_rfl) (by simp) ?_
                refine AllReadyH.cons rfl (fun K hK => ?_) AllReadyH.nil
                refine step_append_lies _ rfl _ _ 27 rfl w.heap.size 9 is_ _ 1 16 Try.underlying27 HIS.out HISZ.out HISS.out HISB.out (by rfl) (by decide) vj Mj.length (Mj.map strv) rfl (ownsRow_alloc HOW.out _) ⟨w6.heap.size, 0, none⟩ 1 1 [strv t] rfl rfl HNEW.out hone (by decide) (by unfold maxLen; omega) (by omega) (by have := V3.out.2.1; simp; omega) (w6.heap.size + 1) (by simp) ?_
                intro g6 cap6 w6 ho6 hg6 hl6 hz6
                have HO6 := Lib.hid ho6
                have T6 := Lib.hid (turn_grown_ hg6)
                have HL6 := Lib.hid hl6
                have B6 : Blk w6 gr 68 (bv t) := (B3.out.drew.alloc _).turn T6.out hvgr
                have y1 : w6.cell? ⟨gy, m, none⟩ = some vj := ((M3.out.blk.drew.alloc _).turn T6.out (M3.out.far m vj HVJ.out)).cell m |>.trans HVJ.out
                have y2 : w6.frozen? ⟨gy, m, none⟩ = false := ((M3.out.blk.drew.alloc _).turn T6.out (M3.out.far m vj HVJ.out)).free m
                have HB6 := Lib.hid B6
                clear ho6 hg6 hl6 B6
                refine hK.out _ _ HB6.out (fun hHeld => ?_)
                clear hK K
                try simp only [List.getElem_toArray, List.getElem_cons_zero, List.getElem_cons_succ, Act.put, List.setIfInBounds_toArray, List.set_cons_zero, List.set_cons_succ]
                refine wpAnyH_take (i := 10) (v := .pointer (some ⟨gy, m, none⟩)) rfl (by kernel_rfl) (by kernel_rfl) (by kernel_rfl) (fun _ _ _ h => h) (Or.inl ⟨by rfl, ?_⟩) (by assumption) ?_
                · intro w' hSw
                  go_simp
                try simp only [List.getElem_toArray, List.getElem_cons_zero, List.getElem_cons_succ, Act.put, List.setIfInBounds_toArray, List.set_cons_zero, List.set_cons_succ]
                refine wpAnyH_ready (rs := [11]) (by kernel_rfl) (by simp) ?_
                refine AllReadyH.cons rfl (fun K hK => ?_) AllReadyH.nil
                go_simp
                refine hK.out _ _ (HB6.out.far hgrgy _) (fun hHeld => ?_)
                clear hK K
                refine wpAnyH_done (by kernel_rfl) ?_ _
                obtain ⟨hmay7, hasd7, ht7⟩ := may_push M3.out A3_.out Q3.out.lt HVJ.out HMJ.out t _ (g := g6) (cap := cap6) V3.out.2.1 HO6.out T6.out HL6.out
                have M7 := Lib.hid hmay7
                have A7 := Lib.hid hasd7
                have T7 := Lib.hid ht7
                clear hmay7 hasd7 ht7 hHeld y1 y2
                go_wp2
                go_roundw
                case rel =>
                  refine ⟨j + 1, by omega, by go_num, S', _, _, _, M7.out, A7.out, Q3.out.turn T7.out (fun k hk e => e.elim (fun e => A3_.out.1 (e ▸ hk)) (fun e => A3_.out.2 _ _ _ HVJ.out e hk)), V3.out.may T7.out (fun k e => e.elim (fun e => by rw [e]; exact GB.out) (fun e => (M3.out.lt HVJ.out e).1)), HW5.out.2.2.2.2.2, by rw [HW5.out.2.2.2.2.1]; have := HPJ.out; omega, fun i N hN => ?_⟩
                  rw [List.getElem?_set] at hN
                  by_cases e : m = i
                  · subst e
                    rw [if_pos rfl, if_pos (by rw [M3.out.lenM]; omega)] at hN
                    injection hN with hN
                    subst hN
                    have := HAL2.out m Mj HMJ.out
                    simp; omega
                  · rw [if_neg e] at hN
                    have := HAL2.out i N hN
                    omega
                case measure => simp [intOf]; omega
          · obtain rfl : j = ms.length := by omega
            have hp1 : Hid (D.pend.length < 1000000000) := Lib.hid (by have := HB2.out; omega)
            have HKX := Lib.hid ((HK.out.below hl.1 (Nat.le_refl _)).iv hl.2.1 hl.2.2)
            have HKL := Lib.hid HK.out.len
            clear hd hl hmay hasd hwh hpj hall hlt
            go_wp2_with fail
            refine (crash_dq QK.out hp1.out _ ks HKL.out HKX.out).mono ?_
            rintro e w5 ⟨rfl, S5, hq, hs⟩
            have Q5 := Lib.hid hq
            have V5 := Lib.hid (VK.out.step hs)
            have M5 := Lib.hid (MK.out.step AK.out hs)
            have HC8 := Lib.hid ((crash_len D ks).1.trans WK.out.n)
            have HAS : Hid (∀ (i : Nat) (M : List (List UInt8)), i < 8 → Ms2[i]? = some M → (D.crashed ks).has i ∈ M) := Lib.hid (fun i M hi hM => wh_crash WK.out ks i hi hM)
            have HPE := Lib.hid (crash_len D ks).2
            have HDD : Hid ((D.crashed ks).dead = false) := Lib.hid rfl
            generalize D.crashed ks = D5 at *
            clear hq hs
            go_wp2_with fail
            go_loopw [16] (fun i wr => ∃ j : Nat, j ≤ 8 ∧ i = .int .i64 j ∧ Turn (fun _ => False) w5 wr) (fun i _ => 8 - (intOf i).toNat)
            case atStart => exact ⟨0, by omega, rfl, Turn.refl _ _⟩
            case round =>
              obtain ⟨j, hj, rfl, ht⟩ := hrel
              have TJ := Lib.hid ht
              clear ht
              by_cases hlt : j < 8
              · have c1 : (j : Int) < 8 := by omega
                obtain ⟨vj, hvj⟩ : ∃ x, vs2[j]? = some x := ⟨_, List.getElem?_eq_getElem (by rw [M5.out.1.len]; exact hlt)⟩
                obtain ⟨Mj, hMj⟩ : ∃ x, Ms2[j]? = some x := ⟨_, List.getElem?_eq_getElem (by rw [M5.out.1.lenM]; exact hlt)⟩
                have hin := HAS.out j Mj hlt hMj
                have TL : Hid ((D5.has j).length = 128) := Lib.hid (Q5.out.1.has_len (by rw [HC8.out]; exact hlt))
                obtain ⟨g, cap, hvg, hcells⟩ := row_cells (M5.out.1.own j vj Mj hvj hMj) (by intro e; rw [e] at hin; cases hin)
                subst hvg
                have HVJ := Lib.hid hvj
                have HCL := Lib.hid hcells
                have hml : (Mj.length : Int) < 1000000000 := by have := HAL2.out j Mj hMj; have := HB2.out; omega
                go_wp2_with fail
                refine (read_dq (Q5.out.still TJ.out) j (by rw [HC8.out]; exact hlt) HDD.out).mono ?_
                rintro e w6 ⟨rfl, hb6, ht6⟩
                obtain ⟨t, ht⟩ : ∃ t, D5.has j = t := ⟨_, rfl⟩
                rw [ht] at hb6 TL hin
                have HIN := Lib.hid hin
                have B6 := Lib.hid hb6
                have T6 := Lib.hid (TJ.out.trans ht6)
                obtain ⟨gr, hgr⟩ : ∃ g, wr.heap.size = g := ⟨_, rfl⟩
                rw [hgr] at B6
                try rw [hgr]
                clear ht hb6 ht6 hin hcells hvj hMj hlt
                go_wp2_with fail
                go_loopw [19, 20] (fun f i wr => ∃ k : Nat, k ≤ Mj.length ∧ i = .int .i64 k ∧ f = .bool ((Mj.take k).any (· == t)) ∧ Turn (fun _ => False) w6 wr) (fun _ i _ => Mj.length - (intOf i).toNat)
                case atStart => exact ⟨0, Nat.zero_le _, rfl, rfl, Turn.refl _ _⟩
                case round =>
                  obtain ⟨k, hk, rfl, rfl, htk⟩ := hrel
                  have TK := Lib.hid (T6.out.trans htk)
                  have d0 : wr.cell? ⟨gy, j, none⟩ = some (.slice (some ⟨g, 0, none⟩) Mj.length cap) := ((M5.out.1.still TK.out).blk.cell j).trans HVJ.out
                  have BR : Blk wr gr 68 (bv t) := B6.out.still_ htk
                  by_cases hlt : k < Mj.length
                  · obtain ⟨x, hx⟩ : ∃ x, Mj[k]? = some x := ⟨_, List.getElem?_eq_getElem hlt⟩
                    have d1 : wr.cell? ⟨g, k, none⟩ = some (.string ⟨x.toArray⟩) := HCL.out wr TK.out k x hx
                    have hc1 : (convert 41 9 (.slice (some ⟨gr, 0, none⟩) 128 128)).run Try.prog wr = .ok (.string ⟨t.toArray⟩) wr := blk_str BR TL.out
                    have hc2 : ∀ n, (convert 41 9 (.slice (some ⟨gr, 0, none⟩) 128 128)).run Try.prog (wr.drewN n) = .ok (.string ⟨t.toArray⟩) (wr.drewN n) := fun n => blk_str (BR.drewN n) TL.out
                    have HTK := Lib.hid (take_snoc_ hx)
                    have HTT := Lib.hid htk
                    have c2 : (k : Int) < (Mj.length : Int) := by omega
                    have c3 : (0 : Int) ≤ (k : Int) := Int.natCast_nonneg _
                    clear htk hx hlt BR
                    go_wp2_with fail
                    rcases Bool.eq_false_or_eq_true ((Mj.take k).any (· == t)) with hf | hf
                    · rw [hf]
                      have HN : Hid ((Mj.take (k + 1)).any (· == t) = true) := Lib.hid (by rw [HTK.out, List.any_append, hf]; rfl)
                      clear hf
                      go_quiet (fail)
                      go_wp2
                      go_roundw
                      case rel => exact ⟨k + 1, by omega, by go_num, by rw [HN.out], HTT.out.drewN _⟩
                      case measure => simp [intOf]; omega
                    · rw [hf]
                      have HN : Hid ((Mj.take (k + 1)).any (· == t) = (x == t)) := Lib.hid (by rw [HTK.out, List.any_append, hf]; simp)
                      clear hf
                      go_quiet (fail)
                      go_wp2
                      go_roundw
                      case rel => exact ⟨k + 1, by omega, by go_num, by rw [HN.out], HTT.out.drewN _⟩
                      case measure => simp [intOf]; omega
                  · obtain rfl : k = Mj.length := by omega
                    have hfin : (Mj.take Mj.length).any (· == t) = true := by rw [List.take_length, List.any_eq_true]; exact ⟨t, HIN.out, by simp⟩
                    rw [hfin]
                    clear hfin hlt BR
                    go_wp2
                    go_roundw
                    case rel => exact ⟨j + 1, by omega, by go_num, TK.out⟩
                    case measure => simp [intOf]; omega
              · obtain rfl : j = 8 := by omega
                have hpd := pending_dq (Q5.out.still TJ.out)
                rw [HPE.out] at hpd
                have HPD := Lib.hid hpd
                have V6 := Lib.hid (V5.out.still TJ.out)
                clear hlt hpd
                go_wp2_with fail
                refine HPD.out.mono ?_
                rintro e w' ⟨rfl, rfl⟩
                go_wp2_with fail
                refine (lives4_any _).mono ?_
                rintro e w11 ⟨rfl, tl⟩
                go_wp2_with fail
                go_ret
                exact ⟨rfl, V6.out.1.trans (tl.mono V6.out.2.1)⟩
end Go.Proofs.Ytdpjjdkfjecihaa
