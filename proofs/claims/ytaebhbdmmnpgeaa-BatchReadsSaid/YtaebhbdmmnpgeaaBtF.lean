/- Layer 15: Bytes, Check; the document's Kept, Mark. -/
import Derived.Test.YtaebhbdmmnpgeaaBtC
import Derived.Test.YtaebhbdmmnpgeaaShelf
import Derived.Test.YtaebhbdmmnpgeaaVcH
namespace Go.Proofs.Ytaebhbdmmnpgeaa
open Go.RowKit Go.Shelf
set_option linter.unusedVariables false
set_option linter.unusedSimpArgs false
set_option maxRecDepth 100000
attribute [local go_sem] Oper.semAt_some

/-- What Bytes answers: its text, its error. -/
noncomputable def by15 (t : Int) (C : List Cg) : ByteArray × Int := if rg15 t C then (if (rec15 t C).length ≤ 16384 then (⟨(rec15 t C).toArray⟩, 0) else (⟨#[]⟩, 5)) else (⟨#[]⟩, 2)
theorem rg_small {t : Int} {C : List Cg} (h : rg15 t C = true) : C.length ≤ 64 ∧ ∀ x ∈ C, x.k.size ≤ 128 ∧ x.v.size ≤ 200 := by
  have g := rg_iff.1 h
  exact ⟨g.1.2.2, fun x hx => by have := kpt_small (g.2.1 x hx); omega⟩
set_option maxHeartbeats 4000000 in
theorem bytes_15 (t : Int) (C : List Cg) (vl : Value) (w : World) (h : Cx w vl C) :
    Calls Try.prog 23 #[.agg #[.int .i64 t, vl]] w fun e w' => e = .returned (.tuple #[.string (by15 t C).1, .int .i64 (by15 t C).2]) ∧ Turn (fun _ => False) w w' := by
  have HRT := Lib.hid (fun W (hW : Turn (fun _ => False) w W) => right_15 t C vl W (h.still hW))
  have HRC := Lib.hid (fun W (hW : Turn (fun _ => False) w W) (hr : rg15 t C = true) => record_any t C vl W (h.still hW) (rg_small hr).1 (rg_small hr).2)
  obtain ⟨AC, cC, rfl, hl, hr⟩ := h
  obtain ⟨n, hn⟩ : ∃ n, C.length = n := ⟨_, rfl⟩
  rw [hn] at HRT HRC ⊢
  obtain ⟨W1, hW1⟩ : ∃ W, w.alloc (.cells #[.int .i64 t, .slice AC n cC] 24) = W := ⟨_, rfl⟩
  have TW : Hid (Turn (fun _ => False) w W1) := Lib.hid (hW1 ▸ (Turn.refl _ _).alloc _)
  have BX : Hid (Blk W1 w.heap.size 24 [.int .i64 t, .slice AC n cC]) := Lib.hid (hW1 ▸ Blk.new _ _ _)
  obtain ⟨x0, x1⟩ := cells2b BX.out
  clear hl hr hn
  unfold by15
  cases hrg : rg15 t C with
  | false =>
    simp only [Bool.false_eq_true, if_false]
    rw [hrg] at HRT
    clear HRC
    go_enter Try.func23, Try.ntmps23
    go_wp2_with (go_at_call 69; refine (HRT.out _ TW.out).mono ?_; rintro e w2 ⟨rfl, ht2⟩; have T2 := Lib.hid (TW.out.trans ht2); clear ht2)
    go_ret2
    exact ⟨rfl, T2.out⟩
  | true =>
    simp only [if_true]
    have HRC2 := Lib.hid (fun W hW => HRC.out W hW hrg)
    rw [hrg] at HRT
    clear HRC
    have hsz : (⟨(rec15 t C).toArray⟩ : ByteArray).size = (rec15 t C).length := by simp [ByteArray.size]
    obtain ⟨L, hL⟩ : ∃ L, rec15 t C = L := ⟨_, rfl⟩
    rw [hL] at HRC2 hsz ⊢
    obtain ⟨S, hS⟩ : ∃ S : ByteArray, (⟨L.toArray⟩ : ByteArray) = S := ⟨_, rfl⟩
    rw [hS] at HRC2 hsz ⊢
    clear hS hL
    obtain ⟨k, hk⟩ : ∃ k, L.length = k := ⟨_, rfl⟩
    rw [hk] at hsz ⊢
    clear hk
    by_cases hb : k ≤ 16384
    · rw [if_pos hb]
      have hb1 : ¬ (16384 : Int) < (S.size : Int) := by omega
      clear hsz hb
      go_enter Try.func23, Try.ntmps23
      go_wp2_with (first
        | (go_at_call 69; refine (HRT.out _ TW.out).mono ?_; rintro e w2 ⟨rfl, ht2⟩; have T2 := Lib.hid (TW.out.trans ht2); obtain ⟨y0, y1⟩ := cells2b (BX.out.turn ht2 (fun h => h)); clear ht2)
        | (go_at_call 70; refine (HRC2.out _ T2.out).mono ?_; rintro e w3 ⟨rfl, ht3⟩; have T3 := Lib.hid (T2.out.trans ht3); clear ht3))
      go_ret2
      exact ⟨rfl, T3.out⟩
    · rw [if_neg hb]
      have hb1 : (16384 : Int) < (S.size : Int) := by omega
      clear hsz hb
      go_enter Try.func23, Try.ntmps23
      go_wp2_with (first
        | (go_at_call 69; refine (HRT.out _ TW.out).mono ?_; rintro e w2 ⟨rfl, ht2⟩; have T2 := Lib.hid (TW.out.trans ht2); obtain ⟨y0, y1⟩ := cells2b (BX.out.turn ht2 (fun h => h)); clear ht2)
        | (go_at_call 70; refine (HRC2.out _ T2.out).mono ?_; rintro e w3 ⟨rfl, ht3⟩; have T3 := Lib.hid (T2.out.trans ht3); clear ht3))
      go_ret2
      exact ⟨rfl, T3.out⟩
theorem check_15 (t : Int) (C : List Cg) (vl : Value) (w : World) (h : Cx w vl C) :
    Calls Try.prog 24 #[.agg #[.int .i64 t, vl]] w fun e w' => e = .returned (.int .i64 (by15 t C).2) ∧ Turn (fun _ => False) w w' := by
  have HB := Lib.hid (fun W (hW : Turn (fun _ => False) w W) => bytes_15 t C vl W (h.still hW))
  obtain ⟨AC, cC, rfl, hl, hr⟩ := h
  obtain ⟨n, hn⟩ : ∃ n, C.length = n := ⟨_, rfl⟩
  rw [hn] at HB ⊢
  obtain ⟨W1, hW1⟩ : ∃ W, w.alloc (.cells #[.int .i64 t, .slice AC n cC] 24) = W := ⟨_, rfl⟩
  have TW : Hid (Turn (fun _ => False) w W1) := Lib.hid (hW1 ▸ (Turn.refl _ _).alloc _)
  obtain ⟨x0, x1⟩ := cells2b (show Blk W1 w.heap.size 24 [.int .i64 t, .slice AC n cC] from hW1 ▸ Blk.new _ _ _)
  clear hl hr hn
  generalize (by15 t C).1 = S at *
  generalize (by15 t C).2 = E at *
  go_enter Try.func24, Try.ntmps24
  go_wp2_with (go_at_call 23; refine (HB.out _ TW.out).mono ?_; rintro e w2 ⟨rfl, ht2⟩; have T2 := Lib.hid (TW.out.trans ht2); clear ht2)
  go_ret
  exact ⟨rfl, T2.out⟩
end Go.Proofs.Ytaebhbdmmnpgeaa
/- Layer 15: the example of Pairs. -/
namespace Go.Proofs.Ytaebhbdmmnpgeaa
open Go.RowKit Go.Shelf
set_option linter.unusedVariables false
set_option linter.unusedSimpArgs false
set_option maxRecDepth 100000
attribute [local go_sem] Oper.semAt_some

theorem bl15 : (Lib.bitLen (1 : Int).toNat : Int) = 1 := by decide +kernel
theorem ins_one (A : Option Addr) (c : Nat) (f : Value) (w : World) :
    Calls Try.prog 153 #[.slice A 1 c, .int .i64 0, .int .i64 1, f] w fun e w' => e = .returned (.tuple #[]) ∧ w' = w := by
  go_enter Try.func153, Try.ntmps153
  go_wp2_with fail
  go_loopw [8, 9] (fun v8 _ wr => v8 = .int .i64 1 ∧ wr = w) (fun _ _ _ => 0)
  case atStart => exact ⟨rfl, rfl⟩
  case round =>
    obtain ⟨rfl, hw⟩ := hrel
    go_wp2_with fail
    go_end0
    first | exact ⟨rfl, rfl⟩ | exact ⟨rfl, hw⟩
theorem pdq_one (A : Option Addr) (c : Nat) (k : Int) (f : Value) (w : World) :
    Calls Try.prog 110 #[.slice A 1 c, .int .i64 0, .int .i64 1, .int .i64 k, f] w fun e w' => e = .returned (.tuple #[]) ∧ w' = w := by
  go_enter Try.func110, Try.ntmps110
  go_wp2_with fail
  go_loopw [1, 2, 3, 10, 11, 12] (fun v1 v2 _ _ _ _ wr => v1 = .int .i64 0 ∧ v2 = .int .i64 1 ∧ wr = w) (fun _ _ _ _ _ _ _ => 0)
  case atStart => exact ⟨rfl, rfl, rfl⟩
  case round =>
    obtain ⟨rfl, rfl, hw⟩ := hrel
    go_wp2_with (go_at_call 153; refine (ins_one A c f _).mono ?_; rintro e w' ⟨rfl, rfl⟩)
    exact bodyPost_ret (v := .tuple #[]) (by simp [results, Try.results110, go_sem]) rfl (by first | exact ⟨rfl, rfl⟩ | exact ⟨rfl, hw⟩)
theorem sort_one (A : Option Addr) (c : Nat) (f : Value) (w : World) :
    Calls Try.prog 58 #[.slice A 1 c, f] w fun e w' => e = .returned (.tuple #[]) ∧ w' = w := by
  go_enter Try.func58, Try.ntmps58
  go_wp2_with (first
    | (go_at_call 111; refine (Try.bits_Len 1 _ (by omega) (by omega)).mono ?_; rintro e w' ⟨rfl, rfl⟩; rw [bl15])
    | (go_at_call 110; refine (pdq_one A c _ f _).mono ?_; rintro e w' ⟨rfl, rfl⟩))
  go_end0
  exact ⟨rfl, rfl⟩
theorem fitf_15 (t : Int) (sv : ByteArray) (d : Bool) (w : World) :
    Calls Try.prog 109 #[.agg #[.int .i64 t, .string sv, .bool d]] w fun e w' => e = .returned (.bool (decide (199 < sv.size))) ∧ Turn (fun _ => False) w w' := by
  by_cases h : 199 < sv.size
  · have h1 : (199 : Int) < (sv.size : Int) := by omega
    rw [decide_eq_true h]
    clear h
    go_enter Try.func109, Try.ntmps109
    go_wp2_with fail
    go_ret
    exact ⟨rfl, (Turn.refl _ _).alloc _⟩
  · have h1 : ¬ (199 : Int) < (sv.size : Int) := by omega
    rw [decide_eq_false h]
    clear h
    go_enter Try.func109, Try.ntmps109
    go_wp2_with fail
    go_ret
    exact ⟨rfl, (Turn.refl _ _).alloc _⟩
def big15 (V : List Vn) : Bool := V.any (fun y => decide (199 < y.s.size))
set_option maxHeartbeats 4000000 in
theorem idxf_15 (V : List Vn) (u : Value) (w : World) (h : Vr w u V) :
    Calls Try.prog 152 #[u, .func (.func 109) #[] #[]] w fun e w' => ∃ i : Int, e = .returned (.int .i64 i) ∧ decide (0 ≤ i) = big15 V ∧ Turn (fun _ => False) w w' := by
  obtain ⟨A, c, rfl, hl, hr⟩ := h
  obtain ⟨n, hn⟩ : ∃ n, V.length = n := ⟨_, rfl⟩
  have HN := Lib.hid hn
  have HR := Lib.hid hr
  rw [hn] at hl ⊢
  clear hn hr
  go_enter Try.func152, Try.ntmps152
  go_wp2_with fail
  go_loopw [5, 8] (fun _ v8 wr => ∃ i : Nat, i ≤ n ∧ v8 = .int .i64 i ∧ Hid (∀ (j : Nat) (y : Vn), j < i → V[j]? = some y → decide (199 < y.s.size) = false) ∧ Turn (fun _ => False) w wr) (fun _ v8 _ => n - (intOf v8).toNat)
  case atStart => exact ⟨0, Nat.zero_le _, rfl, Lib.hid (fun j y hj => by omega), Turn.refl _ _⟩
  case round =>
    obtain ⟨i, hi, rfl, HNO, ht⟩ := hrel
    obtain ⟨wx, rfl⟩ : ∃ W, W = wr := ⟨_, rfl⟩
    have TT := Lib.hid ht
    by_cases hlt : i < n
    · have hl1 : (i : Int) < (n : Int) := by omega
      have hl0 : (0 : Int) ≤ (i : Int) := by omega
      have hq := wrap_of ((i : Int) + 1) (by omega) (by omega)
      obtain ⟨y, hy⟩ : ∃ y, V[i]? = some y := ⟨_, List.getElem?_eq_getElem (by rw [HN.out]; exact hlt)⟩
      have HY := Lib.hid hy
      obtain ⟨b, o, rfl, hb, hc⟩ := HR.out (by rw [HN.out]; omega)
      have hcx : ∀ k, wx.cell? ⟨b, k, none⟩ = w.cell? ⟨b, k, none⟩ := fun k => World.cell?_of_block (w := w) (a := ⟨b, k, none⟩) (ht.block b hb (fun h => h))
      obtain ⟨c0, c1, c2⟩ := hc i y hy
      rw [← hcx] at c0 c1 c2
      have HFF := Lib.hid (fun W => fitf_15 y.t y.s y.d W)
      obtain ⟨yt, ys, yd⟩ := y
      simp only at c0 c1 c2 HFF
      clear hy hb hc hcx ht
      cases hbg : decide (199 < ys.size) with
      | true =>
        rw [hbg] at HFF
        have HBG : Hid (big15 V = true) := Lib.hid (List.any_eq_true.2 ⟨_, List.mem_of_getElem? HY.out, hbg⟩)
        clear hbg
        go_wp2_with (go_at_call 109; refine (HFF.out _).mono ?_; rintro e w2 ⟨rfl, ht2⟩; have T2 := Lib.hid (TT.out.trans ht2); clear ht2)
        go_ret
        exact ⟨_, rfl, by rw [HBG.out]; simp, T2.out⟩
      | false =>
        rw [hbg] at HFF
        have HN2 : Hid (∀ (j : Nat) (y : Vn), j < i + 1 → V[j]? = some y → decide (199 < y.s.size) = false) := Lib.hid (fun j y hj hy => by
          by_cases h : j < i
          · exact HNO.out j y h hy
          · obtain rfl : j = i := by omega
            rw [HY.out] at hy
            cases hy
            exact hbg)
        clear hbg
        go_wp2_with (go_at_call 109; refine (HFF.out _).mono ?_; rintro e w2 ⟨rfl, ht2⟩; have T2 := Lib.hid (TT.out.trans ht2); clear ht2)
        go_roundw
        case rel => exact ⟨i + 1, by omega, by simp [hq], HN2, T2.out⟩
        case measure => simp [intOf, hq]; omega
    · obtain rfl : i = n := by omega
      have HE : Hid (big15 V = false) := Lib.hid (any_none_ (fun j y hj hy => HNO.out j y (by rw [← HN.out]; exact hj) hy))
      go_wp2_with fail
      go_ret
      exact ⟨_, rfl, by rw [HE.out]; simp, TT.out⟩
def fts15 (x : Itm) : Bool := decide (x.k.size ≤ 120) && (decide (0 < x.vs.length) && (chn x.vs && !big15 x.vs))
set_option maxHeartbeats 4000000 in
theorem fits_15 (x : Itm) (u : Value) (w : World) (h : Vr w u x.vs) :
    Calls Try.prog 56 #[.agg #[.string x.k, u]] w fun e w' => e = .returned (.bool (fts15 x)) ∧ Turn (fun _ => False) w w' := by
  obtain ⟨k, vs⟩ := x
  simp only at h ⊢
  have HCK := Lib.hid (fun W (hW : Turn (fun _ => False) w W) => check13 vs u W (h.still hW))
  have HIX := Lib.hid (fun W (hW : Turn (fun _ => False) w W) => idxf_15 vs u W (h.still hW))
  obtain ⟨A, c, e⟩ := h.len
  subst e
  obtain ⟨n, hn⟩ : ∃ n, vs.length = n := ⟨_, rfl⟩
  obtain ⟨R, hR⟩ : ∃ R, fts15 ⟨k, vs⟩ = R := ⟨_, rfl⟩
  have HR := Lib.hid hR
  rw [hR]
  rw [hn] at HCK HIX ⊢
  obtain ⟨cb, hcb⟩ : ∃ b, chn vs = b := ⟨_, rfl⟩
  obtain ⟨bb, hbb⟩ : ∃ b, big15 vs = b := ⟨_, rfl⟩
  unfold fts15 at hR
  simp only at hR
  rw [hn, hcb, hbb] at hR
  rw [hcb] at HCK
  rw [hbb] at HIX
  obtain ⟨W1, hW1⟩ : ∃ W, w.alloc (.cells #[.string k, .slice A n c] 54) = W := ⟨_, rfl⟩
  have TW : Hid (Turn (fun _ => False) w W1) := Lib.hid (hW1 ▸ (Turn.refl _ _).alloc _)
  have BX : Hid (Blk W1 w.heap.size 54 [.string k, .slice A n c]) := Lib.hid (hW1 ▸ Blk.new _ _ _)
  obtain ⟨x0, x1⟩ := cells2b BX.out
  have hways : ((120 : Int) < (k.size : Int) ∧ R = false) ∨ (¬ (120 : Int) < (k.size : Int) ∧ n = 0 ∧ R = false) ∨ (¬ (120 : Int) < (k.size : Int) ∧ 0 < n ∧ cb = false ∧ R = false) ∨ (¬ (120 : Int) < (k.size : Int) ∧ 0 < n ∧ cb = true ∧ R = !bb) := by
    by_cases h1 : k.size ≤ 120
    · by_cases h2 : n = 0
      · refine .inr (.inl ⟨by omega, h2, by rw [← hR, h2]; simp⟩)
      · have e1 : decide (k.size ≤ 120) = true := by simpa using h1
        have e2 : decide (0 < n) = true := by simp; omega
        rw [e1, e2, Bool.true_and, Bool.true_and] at hR
        cases cb with
        | false => exact .inr (.inr (.inl ⟨by omega, by omega, rfl, by rw [← hR]; rfl⟩))
        | true => exact .inr (.inr (.inr ⟨by omega, by omega, rfl, by rw [← hR]; rfl⟩))
    · exact .inl ⟨by omega, by rw [← hR, show decide (k.size ≤ 120) = false by simpa using h1]; rfl⟩
  clear h hn hR hcb hbb HR
  have HCF := Lib.hid (fun W (hW : Turn (fun _ => False) w W) => by
    have H := HIX.out W hW
    exact (show Calls Try.prog 108 #[.slice A n c, .func (.func 109) #[] #[]] W (fun e w' => e = .returned (.bool bb) ∧ Turn (fun _ => False) W w') from by
      have HH := Lib.hid H
      go_enter Try.func108, Try.ntmps108
      go_wp2_with (go_at_call 152; refine HH.out.mono ?_; rintro e w2 ⟨i, rfl, hib, ht2⟩; have T2 := Lib.hid ht2; have HIB := Lib.hid hib; clear ht2 hib)
      go_ret
      exact ⟨by rw [← HIB.out]; rfl, T2.out⟩))
  rcases hways with ⟨h1, rfl⟩ | ⟨h1, rfl, rfl⟩ | ⟨h1, h2, rfl, rfl⟩ | ⟨h1, h2, rfl, rfl⟩
  case inl =>
    go_enter Try.func56, Try.ntmps56
    go_wp2_with fail
    go_ret
    exact ⟨rfl, TW.out⟩
  case inr.inl =>
    go_enter Try.func56, Try.ntmps56
    go_wp2_with fail
    go_ret
    exact ⟨rfl, TW.out⟩
  case inr.inr.inl =>
    have h3 : ¬ (n : Int) = 0 := by omega
    go_enter Try.func56, Try.ntmps56
    go_wp2_with (go_at_call 107; refine (HCK.out _ TW.out).mono ?_; rintro e w2 ⟨rfl, ht2⟩; have T2 := Lib.hid (TW.out.trans ht2); clear ht2)
    go_ret
    exact ⟨rfl, T2.out⟩
  case inr.inr.inr =>
    have h3 : ¬ (n : Int) = 0 := by omega
    go_enter Try.func56, Try.ntmps56
    go_wp2_with (first
      | (go_at_call 107; refine (HCK.out _ TW.out).mono ?_; rintro e w2 ⟨rfl, ht2⟩; have T2 := Lib.hid (TW.out.trans ht2); obtain ⟨y0, y1⟩ := cells2b (BX.out.turn ht2 (fun h => h)); clear ht2)
      | (go_at_call 108; refine (HCF.out _ T2.out).mono ?_; rintro e w3 ⟨rfl, ht3⟩; have T3 := Lib.hid (T2.out.trans ht3); clear ht3))
    go_ret
    exact ⟨rfl, T3.out⟩
end Go.Proofs.Ytaebhbdmmnpgeaa
/- Layer 15: a version's pair; the example of Pairs. -/
namespace Go.Proofs.Ytaebhbdmmnpgeaa
open Go.RowKit Go.Shelf
set_option linter.unusedVariables false
set_option linter.unusedSimpArgs false
set_option maxRecDepth 100000
attribute [local go_sem] Oper.semAt_some

/-- A version's pair. -/
def prP (k : ByteArray) (y : Vn) : Pq2 := ⟨k ++ ⟨(fld 8 (1152921504606846976 - y.t)).toArray⟩, if y.d then ⟨#[0]⟩ else ⟨#[1]⟩ ++ y.s⟩
theorem cells2f {W : World} {q t : Nat} {u0 u1 : Value} (h : Blk W q t [u0, u1]) : W.cell? ⟨q, 0, none⟩ = some u0 ∧ W.cell? ⟨q, 1, none⟩ = some u1 ∧ W.frozen? ⟨q, 0, none⟩ = false ∧ W.frozen? ⟨q, 1, none⟩ = false := ⟨h.cell 0, h.cell 1, h.free 0, h.free 1⟩
theorem box2f {W : World} {q t : Nat} {u0 u1 : Value} (h : Blk W q t [u0, u1]) (x0 x1 : Value) : Blk ((W.setCell ⟨q, 0, none⟩ x0).setCell ⟨q, 1, none⟩ x1) q t [x0, x1] ∧ Turn (fun k => k = q) W ((W.setCell ⟨q, 0, none⟩ x0).setCell ⟨q, 1, none⟩ x1) := by
  refine ⟨(h.put 0 x0).put 1 x1, ?_⟩
  exact ((Turn.refl (fun k => k = q) W).setCell (p := ⟨q, 0, none⟩) (.inl rfl) x0).setCell (p := ⟨q, 1, none⟩) (.inl rfl) x1
set_option maxHeartbeats 4000000 in
theorem pair_15 (k : ByteArray) (y : Vn) (w : World) (hk : k.size ≤ 200) (hs : y.s.size ≤ 300) (ht : 0 ≤ y.t ∧ y.t ≤ 1152921504606846976) :
    Calls Try.prog 57 #[.string k, .agg #[.int .i64 y.t, .string y.s, .bool y.d]] w fun e w' => e = .returned (.agg #[.string (prP k y).k, .string (prP k y).v]) ∧ Turn (fun _ => False) w w' := by
  obtain ⟨yt, ys, yd⟩ := y
  simp only at hs ht ⊢
  unfold prP
  simp only
  have hq := wrap_of (1152921504606846976 - yt) (by omega) (by omega)
  obtain ⟨D, hD⟩ : ∃ l, fld 8 (1152921504606846976 - yt) = l := ⟨_, rfl⟩
  have hDs : (⟨D.toArray⟩ : ByteArray).size = 8 := by rw [← hD]; simp [ByteArray.size, len_fld]
  have HP := Lib.hid (fun W => put64_nilb (1152921504606846976 - yt) W)
  rw [hD] at HP
  rw [hD]
  obtain ⟨W1, hW1⟩ : ∃ W, w.alloc (.cells #[.int .i64 yt, .string ys, .bool yd] 105) = W := ⟨_, rfl⟩
  obtain ⟨W2, hW2⟩ : ∃ W, W1.alloc (.cells #[.string ⟨#[]⟩, .string ⟨#[]⟩] 56) = W := ⟨_, rfl⟩
  have T1 : Hid (Turn (fun _ => False) w W1) := Lib.hid (hW1 ▸ (Turn.refl _ _).alloc _)
  have T2 : Hid (Turn (fun _ => False) w W2) := Lib.hid (hW2 ▸ T1.out.alloc _)
  have B1 : Hid (Blk W2 w.heap.size 105 [.int .i64 yt, .string ys, .bool yd]) := Lib.hid (hW2 ▸ (show Blk W1 w.heap.size 105 [.int .i64 yt, .string ys, .bool yd] from hW1 ▸ Blk.new _ _ _).alloc _)
  have B2 : Hid (Blk W2 W1.heap.size 56 [.string ⟨#[]⟩, .string ⟨#[]⟩]) := Lib.hid (hW2 ▸ Blk.new _ _ _)
  have h12 : w.heap.size < W1.heap.size := by rw [← hW1]; simp
  have h22 : W1.heap.size < W2.heap.size := by rw [← hW2]; simp
  obtain ⟨x0, x1, x2, _, _, _⟩ := cells3 B1.out
  clear hD
  cases yd with
  | true =>
    simp only [if_true]
    go_enter Try.func57, Try.ntmps57
    go_wp2_with (go_at_call 71; refine (HP.out _).mono ?_; rintro e w3 ⟨A3, c3, rfl, ho3, ht3⟩; have hsl := sl_conv ho3.sl; have T3 := Lib.hid (T2.out.trans ht3); have hs3 := ht3.size; have h13 : w.heap.size < w3.heap.size := (by omega); have h23 : W1.heap.size < w3.heap.size := (by omega); obtain ⟨y0, y1, y2, _, _, _⟩ := cells3 (B1.out.turn ht3 (fun h => h)); obtain ⟨z0, z1, z2, z3⟩ := cells2f (B2.out.turn ht3 (fun h => h)); have B3 := Lib.hid (B2.out.turn ht3 (fun h => h)); clear ho3 ht3)
    obtain ⟨BZ, TZ⟩ := box2f B3.out (.string (k ++ ⟨D.toArray⟩)) (.string ⟨#[0]⟩)
    obtain ⟨r0, r1⟩ := cells2b (BZ.alloc (.cells #[.string (k ++ ⟨D.toArray⟩), .string ⟨#[0]⟩] 56))
    refine bodyPost_ret (v := .agg #[.string (k ++ ⟨D.toArray⟩), .string ⟨#[0]⟩]) (by simp [results, Try.results57, go_sem, r0, r1]) rfl ⟨rfl, ?_⟩
    exact (T3.out.trans_new TZ (fun j hj e => by have := T1.out.size; omega)).alloc _
  | false =>
    simp only [Bool.false_eq_true, if_false]
    have hcat : (1 : Nat) + ys.size ≤ 1000 := by omega
    go_enter Try.func57, Try.ntmps57
    go_wp2_with (go_at_call 71; refine (HP.out _).mono ?_; rintro e w3 ⟨A3, c3, rfl, ho3, ht3⟩; have hsl := sl_conv ho3.sl; have T3 := Lib.hid (T2.out.trans ht3); have hs3 := ht3.size; have h13 : w.heap.size < w3.heap.size := (by omega); have h23 : W1.heap.size < w3.heap.size := (by omega); obtain ⟨y0, y1, y2, _, _, _⟩ := cells3 (B1.out.turn ht3 (fun h => h)); obtain ⟨z0, z1, z2, z3⟩ := cells2f (B2.out.turn ht3 (fun h => h)); have B3 := Lib.hid (B2.out.turn ht3 (fun h => h)); clear ho3 ht3)
    obtain ⟨BZ, TZ⟩ := box2f B3.out (.string (k ++ ⟨D.toArray⟩)) (.string (⟨#[1]⟩ ++ ys))
    obtain ⟨r0, r1⟩ := cells2b (BZ.alloc (.cells #[.string (k ++ ⟨D.toArray⟩), .string (⟨#[1]⟩ ++ ys)] 56))
    refine bodyPost_ret (v := .agg #[.string (k ++ ⟨D.toArray⟩), .string (⟨#[1]⟩ ++ ys)]) (by simp [results, Try.results57, go_sem, r0, r1]) rfl ⟨rfl, ?_⟩
    exact (T3.out.trans_new TZ (fun j hj e => by have := T1.out.size; omega)).alloc _
theorem own_ty15 {w : World} {B t s n : Nat} {v : Value} {xs : List Value} (h : w.ownsRow B t s v n xs) {g t' : Nat} {cs : List Value} (hb : Blk w g t' cs) (hne : t ≠ t') : ∀ b, v.ownBlock = some b → b ≠ g := by
  obtain ⟨_, ⟨rfl, _⟩ | ⟨g', c, cur, rfl, hB, hh, _⟩⟩ := h
  · intro k hk; simp [Value.ownBlock] at hk
  · intro k hk e
    simp [Value.ownBlock] at hk
    subst hk e
    unfold Blk at hb
    rw [hh] at hb
    injection hb with hb
    injection hb with h1 h2
    exact hne h2
theorem fts_parts {k : ByteArray} {y : Vn} (h : fts15 ⟨k, [y]⟩ = true) : k.size ≤ 120 ∧ y.s.size ≤ 199 ∧ 0 ≤ y.t ∧ y.t ≤ 1152921504606846976 := by
  unfold fts15 big15 at h
  simp only [Bool.and_eq_true, decide_eq_true_eq, Bool.not_eq_true'] at h
  obtain ⟨h1, _, h3, h4⟩ := h
  have hr := ((chn_iff _).1 h3).1 y (by simp)
  unfold rt at hr
  simp at hr h4
  exact ⟨h1, by omega, by omega, by omega⟩
theorem Ix.iw {w : World} {v : Value} {M : List (Itm × Value)} (h : Ix w v M) : Iw w M := by obtain ⟨_, _, _, _, _, h⟩ := h; exact h
theorem rise_one (A : Option Addr) (c : Nat) (f : Value) (w : World) :
    Calls Try.prog 54 #[.slice A 1 c, f] w fun e w' => e = .returned (.bool true) ∧ w' = w := by
  go_enter Try.func54, Try.ntmps54
  go_wp2_with fail
  go_loopw [5] (fun v5 wr => v5 = .int .i64 1 ∧ wr = w) (fun _ _ => 0)
  case atStart => exact ⟨rfl, rfl⟩
  case round =>
    obtain ⟨rfl, hw⟩ := hrel
    go_wp2_with fail
    go_ret
    first | exact ⟨rfl, rfl⟩ | exact ⟨rfl, hw⟩
set_option maxHeartbeats 8000000 in
theorem pairs_one (k : ByteArray) (y : Vn) (A : Option Addr) (c : Nat) (u : Value) (w : World) (h : Ix w (.slice A 1 c) [(⟨k, [y]⟩, u)]) (hf : fts15 ⟨k, [y]⟩ = true) :
    Calls Try.prog 17 #[.slice A 1 c] w fun e w' => ∃ A' c', e = .returned (.tuple #[.slice A' 1 c', .int .i64 0]) ∧ Px w' (.slice A' 1 c') [prP k y] ∧ Turn (fun _ => False) w w' := by
  obtain ⟨hk, hys, hy0, hy1⟩ := fts_parts hf
  have HFT := Lib.hid (fun W (hW : Turn (fun _ => False) w W) => fits_15 ⟨k, [y]⟩ u W ((h.still hW).iw (⟨k, [y]⟩, u) (by simp)))
  rw [hf] at HFT
  have hv : Vr w u [y] := h.iw (⟨k, [y]⟩, u) (by simp)
  obtain ⟨b, o, hA, hcx⟩ : ∃ b o, A = some ⟨b, o, none⟩ ∧ ∀ X, Turn (fun _ => False) w X → X.cell? ⟨b, o, none⟩ = some (.string k) ∧ X.cell? ⟨b, o + 1, none⟩ = some u := by
    obtain ⟨A', c', e, _, hr, _⟩ := h
    injection e with e1 _ _
    subst e1
    obtain ⟨b, o, e, _, hc⟩ := hr.item (by simp)
    refine ⟨b, o, e, fun X hX => ?_⟩
    have := hc X hX 0 _ rfl
    simpa using this
  subst hA
  have HCX := Lib.hid hcx
  obtain ⟨AV, cV, e, _, hvr⟩ := hv
  subst e
  obtain ⟨bv, ov, hAV, hbv, hcv⟩ := hvr (by simp)
  subst hAV
  have HCV : Hid (∀ X, Turn (fun _ => False) w X → X.cell? ⟨bv, ov, none⟩ = some (.int .i64 y.t) ∧ X.cell? ⟨bv, ov + 1, none⟩ = some (.string y.s) ∧ X.cell? ⟨bv, ov + 2, none⟩ = some (.bool y.d)) := Lib.hid (fun X hX => by
    have hk' : ∀ j, X.cell? ⟨bv, j, none⟩ = w.cell? ⟨bv, j, none⟩ := fun j => World.cell?_of_block (w := w) (a := ⟨bv, j, none⟩) (hX.block bv hbv (fun h => h))
    rw [hk', hk', hk']
    have := hcv 0 y rfl
    simpa using this)
  have HPR := Lib.hid (fun W => pair_15 k y W (by omega) (by omega) ⟨hy0, hy1⟩)
  obtain ⟨P, hP⟩ : ∃ P, prP k y = P := ⟨_, rfl⟩
  rw [hP] at HPR ⊢
  obtain ⟨pk, pv⟩ := P
  obtain ⟨yt, ys, yd⟩ := y
  simp only at HPR HCV hys hy0 hy1
  simp only [List.length_singleton] at HFT HCX ⊢
  obtain ⟨c0, c1⟩ := hcx w (Turn.refl _ _)
  clear h hf hcx hvr hcv hbv hP
  go_enter Try.func17, Try.ntmps17
  go_wp2_with (go_at_call 54; refine (rise_one _ c _ _).mono ?_; rintro e w' ⟨rfl, rfl⟩)
  clear c0 c1
  go_loopw [4, 6, 8, 14] (fun v4 _ _ v14 wr => ∃ (i : Nat) (A4 : Option Addr) (c4 : Nat), i ≤ 1 ∧ v14 = .int .i64 i ∧ v4 = .slice A4 i c4 ∧ Po w'.heap.size wr (.slice A4 i c4) (([⟨pk, pv⟩] : List Pq2).take i) ∧ Turn (fun _ => False) w' wr) (fun _ _ _ v14 _ => 1 - (intOf v14).toNat)
  case atStart => exact ⟨0, none, 0, by omega, rfl, rfl, po_nil _ _, Turn.refl _ _⟩
  case round =>
    obtain ⟨i, A4, c4, hi, rfl, rfl, ho, ht⟩ := hrel
    obtain ⟨wx, rfl⟩ : ∃ W, W = wr := ⟨_, rfl⟩
    have TT := Lib.hid ht
    have OO := Lib.hid ho
    have hi2 : i = 0 ∨ i = 1 := by omega
    rcases hi2 with rfl | rfl
    · obtain ⟨d0, d1⟩ := HCX.out wx ht
      have hfs := (HFT.out wx ht)
      obtain ⟨W2, hW2⟩ : ∃ W, wx.alloc (.cells #[.string k, .slice (some ⟨bv, ov, none⟩) 1 cV] 54) = W := ⟨_, rfl⟩
      have T2 : Hid (Turn (fun _ => False) w' W2) := Lib.hid (hW2 ▸ ht.alloc _)
      have IB : Hid (Blk W2 wx.heap.size 54 [.string k, .slice (some ⟨bv, ov, none⟩) 1 cV]) := Lib.hid (hW2 ▸ Blk.new _ _ _)
      have O2 : Hid (Po w'.heap.size W2 (.slice A4 0 c4) []) := Lib.hid (hW2 ▸ ho.still ((Turn.refl _ _).alloc _))
      obtain ⟨kb, hkb⟩ : ∃ kb, wx.heap.size = kb := ⟨_, rfl⟩
      rw [hkb] at IB
      obtain ⟨e0, e1⟩ := cells2b IB.out
      clear ho ht hfs
      go_upto_region 7 with fail
      try rw [hkb]
      clear hW2 hkb
      go_wp2_with (go_at_call 56; refine (HFT.out _ T2.out).mono ?_; rintro e w3 ⟨rfl, ht3⟩; have T3 := Lib.hid (T2.out.trans ht3); have I3 := Lib.hid (IB.out.turn ht3 (fun h => h)); have O3 := Lib.hid (O2.out.still ht3); obtain ⟨f0, f1⟩ := cells2b I3.out; clear ht3)
      go_loopw [4, 8, 24] (fun v4 _ v24 wr => ∃ (j : Nat) (A5 : Option Addr) (c5 : Nat), j ≤ 1 ∧ v24 = .int .i64 j ∧ v4 = .slice A5 j c5 ∧ Po w'.heap.size wr (.slice A5 j c5) (([⟨pk, pv⟩] : List Pq2).take j) ∧ Blk wr kb 54 [.string k, .slice (some ⟨bv, ov, none⟩) 1 cV] ∧ Turn (fun _ => False) w' wr) (fun _ _ v24 _ => 1 - (intOf v24).toNat)
      case atStart => exact ⟨0, A4, c4, by omega, rfl, rfl, O3.out, I3.out, T3.out⟩
      case round =>
        clear I3 O3 T3 e0 e1 f0 f1
        obtain ⟨j, A5, c5, hj, rfl, rfl, ho, hb, ht⟩ := hrel
        obtain ⟨wy, rfl⟩ : ∃ W, W = wr := ⟨_, rfl⟩
        have TY := Lib.hid ht
        have OY := Lib.hid ho
        have IY := Lib.hid hb
        have hj2 : j = 0 ∨ j = 1 := by omega
        rcases hj2 with rfl | rfl
        · obtain ⟨g0, g1, g2⟩ := HCV.out wy ht
          obtain ⟨W4, hW4⟩ : ∃ W, wy.alloc (.cells #[.int .i64 yt, .string ys, .bool yd] 105) = W := ⟨_, rfl⟩
          have T4 : Hid (Turn (fun _ => False) w' W4) := Lib.hid (hW4 ▸ ht.alloc _)
          have VB : Hid (Blk W4 wy.heap.size 105 [.int .i64 yt, .string ys, .bool yd]) := Lib.hid (hW4 ▸ Blk.new _ _ _)
          have I4 : Hid (Blk W4 kb 54 [.string k, .slice (some ⟨bv, ov, none⟩) 1 cV]) := Lib.hid (hW4 ▸ hb.alloc _)
          have O4 : Hid (Po w'.heap.size W4 (.slice A5 0 c5) []) := Lib.hid (hW4 ▸ ho.still ((Turn.refl _ _).alloc _))
          obtain ⟨e0, e1⟩ := cells2b I4.out
          obtain ⟨x0, x1, x2, _, _, _⟩ := cells3 VB.out
          clear ho hb ht
          go_upto_region 12 with fail
          clear hW4
          go_wp2_with (first
            | (go_at_call 57; refine (HPR.out _).mono ?_; rintro e w5 ⟨rfl, ht5⟩; have T5 := Lib.hid (T4.out.trans ht5); have I5 := Lib.hid (I4.out.turn ht5 (fun h => h)); have O5 := Lib.hid (O4.out.still ht5); clear ht5)
            | (at_builtin; refine wpList_app1p rfl _ _ rfl w'.heap.size (.slice A5 0 c5) [] 0 w5.heap.size ⟨pk, pv⟩ rfl rfl (O5.out.still ((Turn.refl _ _).alloc _)) rfl (Blk.new w5 56 [.string pk, .string pv]) (by omega) (by have := T5.out.size; rw [World.size_alloc]; omega) ?_; intro A7 c7 w7 ho7 ht7; have O7 := Lib.hid ho7; have T7 := Lib.hid ((T5.out.alloc (.cells #[.string pk, .string pv] 56)).trans_new ht7 (fun k hk h => by have := (own_ge9 O5.out k h).1; omega)); have I7 := Lib.hid ((I5.out.alloc (.cells #[.string pk, .string pv] 56)).turn ht7 (fun e => own_ty15 O5.out I5.out (by decide) _ e rfl)); clear ho7 ht7))
          go_roundw
          case rel => exact ⟨1, A7, c7, by omega, by first | rfl | simp, rfl, O7.out, I7.out, T7.out⟩
          case measure => simp [intOf]
        · go_wp2_with fail
          go_roundw
          case rel => exact ⟨1, A5, c5, by omega, by first | rfl | simp, rfl, OY.out, TY.out⟩
          case measure => simp [intOf]
    · have P1 := Lib.hid (Po.px OO.out (by simp))
      go_wp2_with (go_at_call 58; refine (sort_one A4 c4 _ _).mono ?_; rintro e w9 ⟨rfl, hw9⟩; have T9 : Hid (Turn (fun _ => False) w' w9) := Lib.hid (hw9 ▸ TT.out); have P9 : Hid (Px w9 (.slice A4 1 c4) [⟨pk, pv⟩]) := Lib.hid (hw9 ▸ P1.out); clear hw9)
      go_ret2
      exact ⟨_, _, rfl, P9.out, T9.out⟩
end Go.Proofs.Ytaebhbdmmnpgeaa
