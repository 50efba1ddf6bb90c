/- Layer 16: slices.DeleteFunc of texts. -/
import Derived.Test.YtjkfgbmlhglnfaaRdG
import Derived.Lib.SliceRun
namespace Go.Proofs.Ytjkfgbmlhglnfaa
open Go.RowKit Go.Shelf
set_option linter.unusedVariables false
set_option linter.unusedSimpArgs false
set_option maxRecDepth 100000
attribute [local go_sem] Oper.semAt_some

theorem turn_cells16 {S : Nat → Prop} {g : Nat} {w : World} : ∀ (vs : List Value) (o : Nat) {w' : World}, Turn S w w' → S g ∨ w.heap.size ≤ g → Turn S w (w'.setCells g o vs)
  | [], _, _, h, _ => h
  | v :: r, o, _, h, hg => turn_cells16 r (o + 1) (h.setCell (p := ⟨g, o, none⟩) hg v) hg
theorem blk_cells16 {g t : Nat} {X : List Value} : ∀ (vs : List Value) (o : Nat) (w : World) (cs : List Value), Blk w g t cs → cs.take o = X → ∃ cs', Blk (w.setCells g o vs) g t cs' ∧ cs'.take o = X
  | [], _, _, cs, h, hx => ⟨cs, h, hx⟩
  | v :: r, o, w, cs, h, hx => by
    simp only [World.setCells]
    obtain ⟨cs', h1, h2⟩ := blk_cells16 (X := (cs.set o v).take (o + 1)) r (o + 1) _ _ (h.put o v) rfl
    refine ⟨cs', h1, ?_⟩
    have h3 := congrArg (List.take o) h2
    rw [List.take_take, List.take_take, Nat.min_eq_left (by omega), List.take_set_of_le (Nat.le_refl _), hx] at h3
    exact h3
theorem filter_take_no {p : ByteArray → Bool} {L : List ByteArray} {j : Nat} (h : ∀ (l : Nat) (y : ByteArray), l < j → L[l]? = some y → p y = false) : (L.take j).filter (fun k => !p k) = L.take j := by
  rw [List.filter_eq_self]
  intro x hx
  obtain ⟨l, hl⟩ := List.getElem?_of_mem hx
  have hlj : l < j := by
    have := (List.getElem?_eq_some_iff.1 hl).1
    rw [List.length_take] at this
    omega
  rw [List.getElem?_take_of_lt hlj] at hl
  rw [h l x hlj hl]; rfl
theorem filter_take_succ {p : ByteArray → Bool} {L : List ByteArray} {j : Nat} {y : ByteArray} (hy : L[j]? = some y) : (L.take (j + 1)).filter (fun k => !p k) = (L.take j).filter (fun k => !p k) ++ if p y then [] else [y] := by
  rw [List.take_add_one, hy, List.filter_append]
  congr 1
  cases h : p y <;> simp [h]
set_option maxHeartbeats 8000000 in
theorem delete_16 (L : List ByteArray) (S : List Pq2) (lb : Nat) (A2 : Option Addr) (n2 c2 : Nat) (v : Value) (w : World) (hk : Kr w v L) (hL : L.length ≤ 1000000) (hs : Px w (.slice A2 n2 c2) S) (hb : Blk w lb 44 [.slice A2 n2 c2])
    (hsep : ∀ g, v.ownBlock = some g → lb ≠ g ∧ (0 < S.length → ∀ a, A2 = some a → a.block ≠ g)) :
    Calls Try.prog 61 #[v, .func (.func 109) #[] #[.pointer (some ⟨lb, 0, none⟩)]] w fun e w' => ∃ A' n' c', e = .returned (.slice A' n' c') ∧ Kx w' (.slice A' n' c') (L.filter (fun k => !spd16 S k)) ∧ Turn (fun k => v.ownBlock = some k) w w' := by
  have HIX := Lib.hid (idxK_16 S _ lb L v w (hk.kx (by omega)) hs hb)
  rcases hk.form with ⟨rfl, rfl⟩ | ⟨g, cap, cs, rfl, hblk, hlc, hcm, hcl, htk⟩
  · go_enter Try.func61, Try.ntmps61
    go_wp2_with fail
    refine HIX.out.mono ?_
    rintro e w2 ⟨i, rfl, hf, ht2⟩
    have hi : i = -1 := by
      rcases hf with ⟨h, _⟩ | ⟨j, k, _, h, _⟩
      · exact h
      · simp at h
    subst hi
    go_wp2_with fail
    go_ret
    exact ⟨_, _, _, rfl, kx_nil16 _, ht2.mono (fun _ _ h => h.elim)⟩
  · obtain ⟨n, hn⟩ : ∃ n, L.length = n := ⟨_, rfl⟩
    have hsg := hsep g rfl
    have HSG := Lib.hid hsg
    have HN := Lib.hid hn
    have HBK := Lib.hid hblk
    have HW := Lib.hid (fun key W (hW : Turn (fun k => k = g) w W) => within1_16 S _ key lb W (hs.tn16 hW (fun hp a e => hsg.2 hp a e)) (hb.turn hW hsg.1))
    have HTK := Lib.hid htk
    rw [hn] at HIX hlc hL ⊢
    have HCL := Lib.hid hcl
    clear hk hs hb hsep hsg hblk htk hn
    go_enter Try.func61, Try.ntmps61
    go_wp2_with fail
    refine HIX.out.mono ?_
    rintro e w2 ⟨i, rfl, hf, ht2⟩
    have T2 := Lib.hid ht2
    have B2 := Lib.hid (HBK.out.turn ht2 (fun h => h))
    clear ht2
    rcases hf with ⟨rfl, hno⟩ | ⟨j0, k0, rfl, hk0, hp0, hno⟩
    · have HNO := Lib.hid hno
      clear hno
      go_wp2_with fail
      go_ret
      refine ⟨_, _, _, rfl, ?_, T2.out.mono (fun _ _ h => h.elim)⟩
      have hfl : L.filter (fun k => !spd16 S k) = L := by
        rw [List.filter_eq_self]
        intro x hx
        obtain ⟨l, hl⟩ := List.getElem?_of_mem hx
        rw [HNO.out l x hl]; rfl
      rw [hfl]
      refine ⟨_, _, by rw [HN.out], by rw [HN.out]; omega, fun hp => ⟨g, 0, rfl, B2.out.lt, fun j u hj => ?_⟩⟩
      rw [Nat.zero_add, B2.out.cell]
      have hjl := (List.getElem?_eq_some_iff.1 hj).1
      rw [List.length_map] at hjl
      rw [← HTK.out, List.getElem?_take_of_lt (by rw [HN.out] at hjl ⊢; exact hjl)] at hj
      exact hj
    · have hj0 : j0 < n := by rw [← HN.out]; exact (List.getElem?_eq_some_iff.1 hk0).1
      have HNO := Lib.hid hno
      have HK0 := Lib.hid hk0
      have HP0 := Lib.hid hp0
      have hq0 : ((j0 : Int) == -1) = false := by simp
      have hq1 := wrap_of ((j0 : Int) + 1) (by omega) (by omega)
      clear hno hk0 hp0
      go_wp2_with fail
      go_loopw [5, 6] (fun u5 u6 wr => ∃ (i j : Nat) (C : List Value), u5 = .int .i64 i ∧ u6 = .int .i64 j ∧ i < j ∧ j ≤ n ∧ C.length = cap ∧ Hid (Blk wr g 9 C) ∧ Hid (C.take i = ((L.take j).filter (fun k => !spd16 S k)).map Value.string ∧ ((L.take j).filter (fun k => !spd16 S k)).length = i) ∧ Hid (∀ (l : Nat) (y : ByteArray), j ≤ l → L[l]? = some y → C[l]? = some (.string y)) ∧ Turn (fun k => k = g) w2 wr) (fun _ u6 _ => n - (intOf u6).toNat)
      case atStart =>
        refine ⟨j0, j0 + 1, cs, rfl, by go_num, by omega, by omega, HCL.out, B2, Lib.hid ?_, Lib.hid ?_, Turn.refl _ _⟩
        · rw [filter_take_succ HK0.out, filter_take_no HNO.out, HP0.out, if_pos rfl, List.append_nil, List.length_take, Nat.min_eq_left (by rw [HN.out]; omega)]
          refine ⟨?_, rfl⟩
          have := congrArg (List.take j0) HTK.out
          rw [List.take_take, Nat.min_eq_left (by rw [HN.out]; omega), ← List.map_take] at this
          exact this
        · intro l y hl hy
          have hll := (List.getElem?_eq_some_iff.1 hy).1
          have h1 : (cs.take L.length)[l]? = some (.string y) := by rw [HTK.out, List.getElem?_map, hy]; rfl
          rwa [List.getElem?_take_of_lt hll] at h1
      case round =>
        obtain ⟨i, j, C, rfl, rfl, hij, hjn, hC, HBC, HFT, HRE, ht⟩ := hrel
        have TR := Lib.hid ht
        have HCC := Lib.hid hC
        clear ht hC
        have hi0 : (0 : Int) ≤ (i : Int) := by omega
        have hin : (i : Int) < (n : Int) := by omega
        by_cases hlt : j < n
        · have hl1 : (j : Int) < (n : Int) := by omega
          have hl0 : (0 : Int) ≤ (j : Int) := by omega
          have hq := wrap_of ((j : Int) + 1) (by omega) (by omega)
          have hqi := wrap_of ((i : Int) + 1) (by omega) (by omega)
          obtain ⟨y, hy⟩ : ∃ y, L[j]? = some y := ⟨_, List.getElem?_eq_getElem (by rw [HN.out]; exact hlt)⟩
          have HY := Lib.hid hy
          have c0 : wr.cell? ⟨g, j, none⟩ = some (.string y) := by rw [HBC.out.cell]; exact HRE.out j y (Nat.le_refl _) hy
          clear hy
          have HWY := Lib.hid (HW.out y wr ((T2.out.mono (fun _ _ h => h.elim)).trans TR.out))
          cases hp : spd16 S y with
          | true =>
            rw [hp] at HWY
            have HP := Lib.hid hp
            clear hp
            go_wp2_with (go_at_call 109; refine HWY.out.mono ?_; rintro e w3 ⟨rfl, ht3⟩; have T3 := Lib.hid (TR.out.trans (ht3.mono (fun _ _ h => h.elim))); have B3 := Lib.hid (HBC.out.turn ht3 (fun h => h)); clear ht3)
            refine ⟨⟨i, j + 1, C, rfl, by go_num, by omega, by omega, HCC.out, B3, Lib.hid ?_, Lib.hid (fun l y hl hy => HRE.out l y (by omega) hy), T3.out⟩, ?_⟩
            · rw [filter_take_succ HY.out, HP.out, if_pos rfl, List.append_nil]
              exact HFT.out
            · simp [intOf]
              omega
          | false =>
            rw [hp] at HWY
            have HP := Lib.hid hp
            clear hp
            go_wp2_with (go_at_call 109; refine HWY.out.mono ?_; rintro e w3 ⟨rfl, ht3⟩; have T3 := Lib.hid (TR.out.trans (ht3.mono (fun _ _ h => h.elim))); have B3 := Lib.hid (HBC.out.turn ht3 (fun h => h)); have hil : i < C.length := (by rw [HCC.out]; omega); have d0 := B3.out.cell i; rw [List.getElem?_eq_getElem hil] at d0; have d1 := B3.out.free i; clear ht3)
            have tS : Turn (fun k => k = g) w3 (w3.setCell ⟨g, i, none⟩ (.string y)) := (Turn.refl (fun k => k = g) w3).setCell (p := ⟨g, i, none⟩) (.inl rfl) _
            refine ⟨⟨i + 1, j + 1, C.set i (.string y), by go_num, by go_num, by omega, by omega, by rw [List.length_set]; exact HCC.out, Lib.hid (B3.out.put i _), Lib.hid ?_, Lib.hid (fun l z hl hz => ?_), T3.out.trans tS⟩, ?_⟩
            · rw [filter_take_succ HY.out, HP.out, if_neg (by decide), List.map_append, List.length_append, HFT.out.2, List.take_add_one, List.take_set_of_le (Nat.le_refl _), HFT.out.1, List.getElem?_set_self hil]
              exact ⟨rfl, rfl⟩
            · rw [List.getElem?_set_ne (by omega)]
              exact HRE.out l z (by omega) hz
            · simp [intOf]
              omega
        · obtain rfl : n = j := by omega
          have hjj : ¬ (n : Int) < (n : Int) := by omega
          have hni : n - i ≤ 1000000 := by omega
          have hnat : ((n - i : Nat) : Int) = (n : Int) - (i : Int) := by omega
          have hcl2 := Go.Lib.run_clear_slice (P := Try.prog) wr 43 9 0 (.string ⟨#[]⟩) Try.underlying43 Try.zeroValue9 rfl rfl g i (n - i) (cap - i) (by omega) (fun l hl => by rw [HBC.out.cell, List.getElem?_eq_getElem (by rw [HCC.out]; omega)]; rfl) (fun l hl => HBC.out.free _)
          have hfin := blk_cells16 (List.replicate (n - i) (.string ⟨#[]⟩)) i wr C HBC.out rfl
          have HFIN := Lib.hid hfin
          have TF := Lib.hid (turn_cells16 (S := fun k => k = g) (List.replicate (n - i) (.string ⟨#[]⟩)) i (Turn.refl _ wr) (.inl rfl))
          clear hfin
          go_wp2_with fail
          go_ret
          obtain ⟨cs', hb', ht'⟩ := HFIN.out
          obtain ⟨h1, h2⟩ := HFT.out
          have hLn : L.take n = L := List.take_of_length_le (by rw [HN.out]; omega)
          rw [hLn] at h1 h2
          rw [h1] at ht'
          refine ⟨_, _, _, rfl, ⟨_, _, by rw [h2], by rw [h2]; omega, fun hp => ⟨g, 0, rfl, hb'.lt, fun l u hl => ?_⟩⟩, ?_⟩
          · rw [Nat.zero_add, hb'.cell]
            have hll := (List.getElem?_eq_some_iff.1 hl).1
            rw [List.length_map, h2] at hll
            rw [← ht', List.getElem?_take_of_lt hll] at hl
            exact hl
          · exact ((T2.out.mono (fun _ _ h => h.elim)).trans (TR.out.trans TF.out)).mono (fun k _ h => by rw [h]; rfl)
end Go.Proofs.Ytjkfgbmlhglnfaa
