/- The walk of ambrylaw01.FieldReads. -/
import Derived.Test.YtcebhoilokmhdaaRefText
import Derived.Deep.RegionWith
import Derived.Deep.DeepCutAuto
import Derived.StillTailTactics
import Derived.Deep.RegionLaw
namespace Go.Proofs.Ytcebhoilokmhdaa
open Go.RowKit
set_option linter.unusedVariables false

/-- A value that is a slice of asks (two integers each), all below block B. -/
def Asks (w : World) (B : Nat) (v : Value) (qs : List (Int × Int)) : Prop := ∃ A cap, v = .slice A qs.length cap ∧
  (0 < qs.length → ∃ ad : Addr, A = some ad ∧ ad.spot = none ∧ ad.block < B ∧ ∀ j k m, qs[j]? = some (k, m) → w.cell? ⟨ad.block, ad.off + j * 2, none⟩ = some (.int .i64 k) ∧ w.cell? ⟨ad.block, ad.off + j * 2 + 1, none⟩ = some (.int .i64 m))

theorem gv_wrap (k v : Nat) (hk : k < 4) (hv : v < 256 ^ 2 ^ k) : gv k v = wrap64 v := by
  have hc : k = 0 ∨ k = 1 ∨ k = 2 ∨ k = 3 := by omega
  rcases hc with rfl | rfl | rfl | rfl
  · rw [gv_lt (by decide)]; simp at hv; unfold wrap64; omega
  · rw [gv_lt (by decide)]; simp at hv; unfold wrap64; omega
  · rw [gv_lt (by decide)]; simp at hv; unfold wrap64; omega
  · exact gv_3 v
theorem rw_num_lt (k : Nat) (l : List UInt8) (at_ er v at' er' : Nat) (hv : rw_ k l at_ er = (v, at', er')) : v < 256 ^ k ∧ (at_ ≤ l.length → at' ≤ l.length) := by
  have hp : 0 < 256 ^ k := Nat.pow_pos (by decide)
  have := num_lt k l at_
  unfold rw_ at hv
  split at hv
  · split at hv <;> (injection hv with e1 e2; injection e2 with e2 e3; exact ⟨by omega, by omega⟩)
  · injection hv with e1 e2; injection e2 with e2 e3; exact ⟨by omega, by omega⟩

theorem wpList_app_fresh {P : Program} {w : World} {ops : Array Oper} {rest : List Oper} {o : Oper} {a : Act} {Q : Exit → Act → World → Prop} (hgd : o.guard = none) (s y : Operand) (t : TypeId)
    (ho : o.op = .call { callee := .builtin .append, args := #[s, y], argTypes := #[t, t] })
    (B : Nat) (e : TypeId) (i : TypeInfo) (ht : P.underlying t = some (.slice e)) (hi : P.info? e = some i) (hz : i.zero = some (.int .u8 0)) (hsize : i.size = 1) (hby : i.bytes = 1)
    (g : Nat) (x : Value) (m : List UInt8) (hs : a.eval s = .slice (some ⟨g, 0, none⟩) 0 0) (hy : a.eval y = x) (hx : Sl w B x m) (hbytes : m.length ≤ 140737488355328)
    (h : ∀ v' w', Sl w' w'.heap.size v' m → Below w.heap.size w w' → wpList P ops Q rest (a.put o.dst v') w') : wpList P ops Q (o :: rest) a w := by
  refine wpList_plain hgd fun K hK => ?_
  obtain ⟨v', w', hr, h2, h3⟩ := run_app_fresh (P := P) w B t o.type e i ht hi hz hsize hby g x m hx hbytes
  unfold Oper.wp execOp
  simp only [ho, resolve, invoke, builtin, Sem.run_bind, Sem.run_pure, Result.andThen_ok, List.map_toArray, List.map_cons, List.map_nil, hs, hy, hr]
  exact hK _ _ (h v' w' h2 h3)
theorem at_v (p : Nat) (l : List UInt8) (at_ er : Nat) (w : World) (h : Rdr w p l at_ er) : Calls Try.prog 26 #[.pointer (some ⟨p, 0, none⟩)] w fun e w' => ∃ v, e = .returned v ∧ (v = .int .i64 at_ ∧ w = w') :=
  (at_any p l at_ er w h).mono fun e w' h => ⟨_, h.1, rfl, h.2⟩
theorem er_v (p : Nat) (l : List UInt8) (at_ er : Nat) (w : World) (h : Rdr w p l at_ er) : Calls Try.prog 27 #[.pointer (some ⟨p, 0, none⟩)] w fun e w' => ∃ v, e = .returned v ∧ (v = .int .i64 er ∧ w = w') :=
  (er_any p l at_ er w h).mono fun e w' h => ⟨_, h.1, rfl, h.2⟩
theorem end_v (p : Nat) (l : List UInt8) (at_ er : Nat) (w : World) (h : Rdr w p l at_ er) : Calls Try.prog 28 #[.pointer (some ⟨p, 0, none⟩)] w fun e w' => ∃ v, e = .returned v ∧ (v = .int .i64 (re_ l at_ er) ∧ ∃ n, w' = w.drewN n) :=
  (end_any p l at_ er w h).mono fun e w' h => ⟨_, h.1, rfl, h.2⟩
theorem refEnd_v (S : ByteArray) (l : List UInt8) (hS : S.size = l.length) (at_ er : Nat) (w : World) :
    Calls Try.prog 29 #[.agg #[.string S, .int .i64 at_, .int .i64 er]] w fun e w' => ∃ v, e = .returned v ∧ (v = .int .i64 (re_ l at_ er) ∧ Below w.heap.size w w') :=
  (refEnd_any S l hS at_ er w).mono fun e w' h => ⟨_, h.1, rfl, h.2⟩
theorem like_below {B : Nat} {a w W : World} (h : Below B a w) (h1 : W.heap = w.heap) (h2 : W.os = w.os) (h3 : W.tape = w.tape) (h4 : W.output = w.output) : Below B a W :=
  ⟨h2.trans h.os, h3.trans h.tape, h4.trans h.output, by rw [h1]; exact h.size, fun k hk => by rw [h1]; exact h.block k hk⟩
theorem bthen' {B : Nat} {w a b : World} (h : Below B w a) (hB : B ≤ a.heap.size) (k : Below a.heap.size a b) : Below B w b := h.trans (k.mono hB)
theorem rt_le (M : Int) (l : List UInt8) (at_ er : Nat) (s : List UInt8) (at' er' : Nat) (hv : rt_ M l at_ er = (s, at', er')) (ha : at_ ≤ l.length) : at' ≤ l.length := by
  unfold rt_ at hv
  split at hv
  · split at hv
    · cases hv; exact ha
    · split at hv
      · cases hv; exact ha
      · split at hv
        · cases hv; exact ha
        · cases hv; omega
  · cases hv; exact ha

set_option maxRecDepth 100000 in
set_option maxHeartbeats 4000000 in
theorem fieldReads_some (v0 : Value) (l : List UInt8) (v1 : Value) (qs : List (Int × Int)) (w : World) (s0 : Sl w w.heap.size v0 l) (b0 : l.length ≤ 140737488351232) (s1 : Asks w w.heap.size v1 qs) (hbig : (qs.length : Int) ≤ 1000) :
    Calls Try.prog 4 #[v0, v1] w fun e w' => e = .returned (.bool true) ∧ Below w.heap.size w w' := by
  obtain ⟨i0, hi, hz0, hz1, hz2⟩ := info_parts Try.info5
  obtain ⟨A, cap, rfl, hrd, hm, hn, hle⟩ := s0
  obtain ⟨A1, cap1, rfl, has⟩ := s1
  have S0 := Lib.hid (show Sl w w.heap.size (.slice A l.length cap) l from ⟨A, cap, rfl, hrd, hm, hn, hle⟩)
  obtain ⟨S, hS⟩ : ∃ S : ByteArray, S = ⟨l.toArray⟩ := ⟨_, rfl⟩
  have hconv : ∀ w', Below w.heap.size w w' → (convert 22 9 (.slice A l.length cap)).run Try.prog w' = .ok (.string S) w' := fun w' hb => by
    rw [hS]
    exact run_str _ _ _ 5 _ _ _ Try.underlying22 Try.underlying5 Try.underlying9 fun hp => by obtain ⟨ad, e, _, _, hc⟩ := (hrd.below hb) hp; exact ⟨ad, e, hc⟩
  have HS := Lib.hid hS
  have HI := Lib.hid hi
  have HAS := Lib.hid has
  clear hrd hm hn hS hi has
  go_enter Try.func4, Try.ntmps4
  go_wp2_with (first
    | (at_builtin; refine wpList_app_fresh rfl _ _ 22 rfl w.heap.size 5 i0 Try.underlying22 HI.out hz0 hz1 hz2 _ (.slice A l.length cap) l rfl rfl (S0.out.below ((Below.refl _ _).alloc (Nat.le_refl _) _) (Nat.le_refl _)) (by omega) ?_; intro v4 w4 hs4 hb4; have HS4 := Lib.hid hs4; clear hs4)
    | (go_at_call 21; refine (newReader_any _ _ _ _ HS4.out (Nat.le_refl _) (by omega)).mono ?_; rintro e w5 ⟨p, rfl, hr5, hp5, hb5⟩; have hz4 := hb4.size; have hz5 := hb5.size; simp at hz4; have hB5 : Below w.heap.size w w5 := ((Below.refl _ _).alloc (Nat.le_refl _) _).trans ((hb4.mono (by simp)).trans (hb5.mono (by omega))); have hcv := hconv w5 hB5; have HR5 := Lib.hid hr5; have HPP := Lib.hid hp5; clear hr5 hb5 hb4))
  obtain ⟨q, hq⟩ : ∃ q, q = w5.heap.size := ⟨_, rfl⟩
  have HQ := Lib.hid (show Blk (w5.alloc (.cells #[.string S, .int .i64 0, .int .i64 0] 34)) q 34 [.string S, .int .i64 0, .int .i64 0] from by rw [hq]; exact Blk.new _ _ _)
  have HR := Lib.hid (show Rdr (w5.alloc (.cells #[.string S, .int .i64 0, .int .i64 0] 34)) p l 0 0 from HR5.out.below ((Below.refl _ _).alloc (Nat.le_refl _) _) HR5.out.lt)
  have HPQ := Lib.hid (show p ≠ q ∧ w.heap.size ≤ q ∧ w.heap.size ≤ p ∧ p < q from by have := HR5.out.lt; have := HPP.out; subst hq; omega)
  have HB5 := Lib.hid (hB5.alloc hB5.size (.cells #[.string S, .int .i64 0, .int .i64 0] 34))
  clear hcv hconv hB5
  rw [← hq]
  clear hq
  go_loopw [7] (fun i wr => ∃ k at_ er : Nat, k ≤ qs.length ∧ i = .int .i64 k ∧ at_ ≤ l.length ∧ Rdr wr p l at_ er ∧ Blk wr q 34 [.string S, .int .i64 at_, .int .i64 er] ∧ Below w.heap.size w wr) (fun i _ => qs.length - (intOf i).toNat)
  case atStart => exact ⟨0, 0, 0, by omega, by go_num, by omega, HR.out, HQ.out, HB5.out⟩
  case round =>
    obtain ⟨k, at_, er, hk, rfl, hat, hrd, hqb, hb⟩ := hrel
    by_cases hlt : k < qs.length
    · obtain ⟨ad, rfl, hsp, hbk, hcell⟩ := HAS.out (by omega)
      obtain ⟨b, off, spot⟩ := ad
      obtain rfl : spot = none := hsp
      obtain ⟨K, M, hKM⟩ : ∃ K M, qs[k]? = some (K, M) := ⟨_, _, List.getElem?_eq_getElem hlt⟩
      obtain ⟨hcK, hcM⟩ := hcell k K M hKM
      have hK : wr.cell? ⟨b, off + k * 2, none⟩ = some (.int .i64 K) := (hb.cell (p := ⟨b, off + k * 2, none⟩) hbk).trans hcK
      have hM : wr.cell? ⟨b, off + k * 2 + 1, none⟩ = some (.int .i64 M) := (hb.cell (p := ⟨b, off + k * 2 + 1, none⟩) hbk).trans hcM
      have hlt' : (k : Int) < qs.length := by omega
      have HRD := Lib.hid hrd
      have HQB := Lib.hid hqb
      have HLT := Lib.hid hlt
      have HAT := Lib.hid hat
      clear hcell hKM hcK hcM hrd hqb hlt hat
      go_upto_region 8 with fail
      rename_i KR aR K8 a8
      have REST : ∀ (x : Nat → Value) (wx : World) (at' er' : Nat), at' ≤ l.length → Rdr wx p l at' er' → Blk wx q 34 [.string S, .int .i64 at', .int .i64 er'] → Below w.heap.size w wx → KR { tmps := #[.slice A l.length cap, .slice (some ⟨b, off, none⟩) qs.length cap1, undef, undef, x 4, .pointer (some ⟨p, 0, none⟩), .pointer (some ⟨q, 0, none⟩), .int .i64 k, x 8, x 9, x 10, x 11, x 12, .slice (some ⟨w.heap.size, 0, none⟩) 0 0, .slice A l.length cap, v4, .pointer (some ⟨p, 0, none⟩), .slice A l.length cap, .string S, .agg #[.string S, .int .i64 0, .int .i64 0], .pointer (some ⟨p, 0, none⟩), .bool false, .bool false, .slice (some ⟨b, off, none⟩) qs.length cap1, .int .i64 qs.length, .bool (decide ((1000 : Int) < qs.length)), .bool (decide ((1000 : Int) < qs.length)), undef, undef, undef, undef, undef, x 32, x 33, x 34, x 35, x 36, x 37, x 38, x 39, x 40, x 41, x 42, x 43, x 44, x 45, x 46, x 47, x 48, x 49, x 50, x 51, x 52, x 53, x 54, x 55, x 56, x 57, x 58, x 59, x 60, x 61, x 62, x 63, x 64, x 65, x 66, x 67, x 68, x 69, x 70, x 71, x 72, x 73, x 74, x 75, x 76, x 77, x 78, x 79, x 80, x 81, x 82, x 83, x 84, x 85, x 86, x 87, x 88, x 89, x 90, x 91, x 92, x 93, x 94, x 95, x 96, x 97, x 98, x 99, x 100, x 101, undef], defers := [] } wx := by
        intro x wx at' er' hal hr hq' hbx
        have z1 : wx.cell? ⟨q, 1, none⟩ = some (.int .i64 at') := hq'.cell 1
        have z2 : wx.cell? ⟨q, 2, none⟩ = some (.int .i64 er') := hq'.cell 2
        have z0 : wx.cell? ⟨q, 0, none⟩ = some (.string S) := hq'.cell 0
        have HR0 := Lib.hid hr
        have HRX := Lib.hid (show Rdr wx.drew p l at' er' from hr)
        have HQX := Lib.hid hq'
        have HBX := Lib.hid hbx
        have HAX := Lib.hid hal
        have HSS := Lib.hid (show S.size = l.length from by rw [HS.out]; simp [ByteArray.size])
        clear hr hq' hbx hal b0 hk hK hM hb
        refine aR _ _ ?_
        clear aR a8
        go_wp2
        go_region_law (first
          | (refine step_call rfl 26 Try.f26 _ _ rfl Try.func26 (by kernel_rfl) (by kernel_rfl) _ _ (at_v p l at' er' _ HRX.out) (by go_simp) ?_; rintro v1 w1 ⟨rfl, rfl⟩)
          | (refine step_call_on 27 Try.f27 _ _ rfl Try.func27 (by kernel_rfl) (by kernel_rfl) _ _ (er_v p l at' er' _ HRX.out) (by go_simp) (by first | rfl | go_simp) ?_; rintro v2 w2 ⟨rfl, rfl⟩)
          | (refine step_call_on 28 Try.f28 _ _ rfl Try.func28 (by kernel_rfl) (by kernel_rfl) _ _ (end_v p l at' er' _ HRX.out) (by go_simp) (by first | rfl | go_simp) ?_; rintro v3 w3 ⟨rfl, n3, rfl⟩)
          | (refine step_call_on 29 Try.f29 _ _ rfl Try.func29 (by kernel_rfl) (by kernel_rfl) _ _ (refEnd_v S l HSS.out at' er' _) (by go_simp) (by first | rfl | go_simp) ?_; rintro v4 w4 ⟨rfl, hb4⟩))
        all_goals
          have hb5 : Below wx.heap.size wx w4 := (bdrewN (Below.refl wx.heap.size wx)).trans (hb4.mono (Nat.le_refl _))
          have HB5 := Lib.hid hb5
          clear hb5 hb4
          go_wp2_with fail
          go_roundw
          case rel => exact ⟨k + 1, at', er', HLT.out, by go_num, HAX.out, HR0.out.below HB5.out HR0.out.lt, HQX.out.below HB5.out HQX.out.lt, HBX.out.trans (HB5.out.mono HBX.out.size)⟩
          case measure => simp [intOf]; have := HLT.out; omega
      have REST2 : ∀ (tm : Array Value) (wx : World) (at' er' : Nat), tm = #[.slice A l.length cap, .slice (some ⟨b, off, none⟩) qs.length cap1, undef, undef, tm.getD 4 undef, .pointer (some ⟨p, 0, none⟩), .pointer (some ⟨q, 0, none⟩), .int .i64 k, tm.getD 8 undef, tm.getD 9 undef, tm.getD 10 undef, tm.getD 11 undef, tm.getD 12 undef, .slice (some ⟨w.heap.size, 0, none⟩) 0 0, .slice A l.length cap, v4, .pointer (some ⟨p, 0, none⟩), .slice A l.length cap, .string S, .agg #[.string S, .int .i64 0, .int .i64 0], .pointer (some ⟨p, 0, none⟩), .bool false, .bool false, .slice (some ⟨b, off, none⟩) qs.length cap1, .int .i64 qs.length, .bool (decide ((1000 : Int) < qs.length)), .bool (decide ((1000 : Int) < qs.length)), undef, undef, undef, undef, undef, tm.getD 32 undef, tm.getD 33 undef, tm.getD 34 undef, tm.getD 35 undef, tm.getD 36 undef, tm.getD 37 undef, tm.getD 38 undef, tm.getD 39 undef, tm.getD 40 undef, tm.getD 41 undef, tm.getD 42 undef, tm.getD 43 undef, tm.getD 44 undef, tm.getD 45 undef, tm.getD 46 undef, tm.getD 47 undef, tm.getD 48 undef, tm.getD 49 undef, tm.getD 50 undef, tm.getD 51 undef, tm.getD 52 undef, tm.getD 53 undef, tm.getD 54 undef, tm.getD 55 undef, tm.getD 56 undef, tm.getD 57 undef, tm.getD 58 undef, tm.getD 59 undef, tm.getD 60 undef, tm.getD 61 undef, tm.getD 62 undef, tm.getD 63 undef, tm.getD 64 undef, tm.getD 65 undef, tm.getD 66 undef, tm.getD 67 undef, tm.getD 68 undef, tm.getD 69 undef, tm.getD 70 undef, tm.getD 71 undef, tm.getD 72 undef, tm.getD 73 undef, tm.getD 74 undef, tm.getD 75 undef, tm.getD 76 undef, tm.getD 77 undef, tm.getD 78 undef, tm.getD 79 undef, tm.getD 80 undef, tm.getD 81 undef, tm.getD 82 undef, tm.getD 83 undef, tm.getD 84 undef, tm.getD 85 undef, tm.getD 86 undef, tm.getD 87 undef, tm.getD 88 undef, tm.getD 89 undef, tm.getD 90 undef, tm.getD 91 undef, tm.getD 92 undef, tm.getD 93 undef, tm.getD 94 undef, tm.getD 95 undef, tm.getD 96 undef, tm.getD 97 undef, tm.getD 98 undef, tm.getD 99 undef, tm.getD 100 undef, tm.getD 101 undef, undef] → at' ≤ l.length → Rdr wx p l at' er' → Blk wx q 34 [.string S, .int .i64 at', .int .i64 er'] → Below w.heap.size w wx → KR { tmps := tm, defers := [] } wx := by
        intro tm wx at' er' h
        rw [h]
        exact REST (fun i => tm.getD i undef) wx at' er'
      have HREST := Lib.hid REST2
      clear REST REST2 aR
      by_cases hc : 0 ≤ K ∧ K < 4
      · obtain ⟨hcc1, hcc2⟩ := hc
        have hc : 0 ≤ K ∧ K < 4 := ⟨hcc1, hcc2⟩
        have hcK : K = 0 ∨ K = 1 ∨ K = 2 ∨ K = 3 := by omega
        clear hc
        rcases hcK with rfl | rfl | rfl | rfl
        · obtain ⟨v, at', er', hv⟩ : ∃ v a e, rw_ (2 ^ 0) l at_ er = (v, a, e) := ⟨_, _, _, rfl⟩
          obtain ⟨hvl, hal⟩ := rw_num_lt (2 ^ 0) l at_ er v at' er' hv
          have HAL := Lib.hid (hal HAT.out)
          have HC := Lib.hid (fun w => refNum_any S l HS.out at_ er (2 ^ 0) (by decide) HAT.out (by omega) v at' er' hv w)
          have HG := Lib.hid (fun (W : World) (h : Rdr W p l at_ er) => lget_any p l at_ er 0 (by decide) 0 rfl v at' er' hv W h)
          have HGV := Lib.hid (gv_wrap 0 v (by decide) hvl)
          obtain ⟨V, hV⟩ : ∃ V, wrap64 (v : Int) = V := ⟨_, rfl⟩
          have HV := Lib.hid hV
          simp only [HV.out, HGV.out] at HC HG
          clear hv hvl hal hV b0 hk
          unfold rv at HC
          have q0 : wr.cell? ⟨q, 0, none⟩ = some (.string S) := HQB.out.cell 0
          have q1 : wr.cell? ⟨q, 1, none⟩ = some (.int .i64 at_) := HQB.out.cell 1
          have q2 : wr.cell? ⟨q, 2, none⟩ = some (.int .i64 er) := HQB.out.cell 2
          have hqw : q < wr.heap.size := HQB.out.lt
          go_wp2_with (first
            | (go_at_call 22; refine (HC.out _).mono ?_; rintro e w6 ⟨rfl, hb6⟩; have hz6 := hb6.size; have HR6 := Lib.hid ((HRD.out.below hb6 HRD.out.lt).below ((Below.refl w6.heap.size w6).alloc (Nat.le_refl _) (rb S at' er')) (by have := HRD.out.lt; omega)); have HQ6 := Lib.hid ((HQB.out.below hb6 HQB.out.lt).alloc (rb S at' er')); have HB6 := Lib.hid ((hb.trans (hb6.mono hb.size)).alloc (by have := hb.size; omega) (rb S at' er')); clear hb6)
            | (go_at_call 23; refine (HG.out _ HR6.out).mono ?_; rintro e w7 ⟨rfl, hr7, ht7⟩; have hx := (Blk.new w6 34 [.string S, .int .i64 at', .int .i64 er']).turn ht7 (fun e => by have := HRD.out.lt; omega); have hq7 := HQ6.out.turn ht7 (fun e => HPQ.out.1 e.symm); have HR7 := Lib.hid hr7; have HQ7 := Lib.hid hq7; have HB7 := Lib.hid (HB6.out.trans (ht7.below (by have := hb.size; simp; omega) (fun k hk => by have := HPQ.out; omega)));
                 have x0 : w7.cell? ⟨w6.heap.size, 0, none⟩ = some (.string S) := hx.cell 0; have x1 : w7.cell? ⟨w6.heap.size, 1, none⟩ = some (.int .i64 at') := hx.cell 1; have x2 : w7.cell? ⟨w6.heap.size, 2, none⟩ = some (.int .i64 er') := hx.cell 2;
                 have z0 : w7.cell? ⟨q, 0, none⟩ = some (.string S) := hq7.cell 0; have z1 : w7.cell? ⟨q, 1, none⟩ = some (.int .i64 at_) := hq7.cell 1; have z2 : w7.cell? ⟨q, 2, none⟩ = some (.int .i64 er) := hq7.cell 2;
                 have y0 := hq7.free 0; have y1 := hq7.free 1; have y2 := hq7.free 2; clear hx hq7 hr7 ht7))
          show KR _ _
          exact HREST.out _ _ at' er' rfl HAL.out (HR7.out.below (((((Below.refl q w7).setCell (Nat.le_refl _) _).setCell (Nat.le_refl _) _).setCell (Nat.le_refl _) _)) HPQ.out.2.2.2) (((HQ7.out.put 0 _).put 1 _).put 2 _) (((HB7.out.setCell HPQ.out.2.1 _).setCell HPQ.out.2.1 _).setCell HPQ.out.2.1 _)
        · obtain ⟨v, at', er', hv⟩ : ∃ v a e, rw_ (2 ^ 1) l at_ er = (v, a, e) := ⟨_, _, _, rfl⟩
          obtain ⟨hvl, hal⟩ := rw_num_lt (2 ^ 1) l at_ er v at' er' hv
          have HAL := Lib.hid (hal HAT.out)
          have HC := Lib.hid (fun w => refNum_any S l HS.out at_ er (2 ^ 1) (by decide) HAT.out (by omega) v at' er' hv w)
          have HG := Lib.hid (fun (W : World) (h : Rdr W p l at_ er) => lget_any p l at_ er 1 (by decide) 1 rfl v at' er' hv W h)
          have HGV := Lib.hid (gv_wrap 1 v (by decide) hvl)
          obtain ⟨V, hV⟩ : ∃ V, wrap64 (v : Int) = V := ⟨_, rfl⟩
          have HV := Lib.hid hV
          simp only [HV.out, HGV.out] at HC HG
          clear hv hvl hal hV b0 hk
          unfold rv at HC
          have q0 : wr.cell? ⟨q, 0, none⟩ = some (.string S) := HQB.out.cell 0
          have q1 : wr.cell? ⟨q, 1, none⟩ = some (.int .i64 at_) := HQB.out.cell 1
          have q2 : wr.cell? ⟨q, 2, none⟩ = some (.int .i64 er) := HQB.out.cell 2
          have hqw : q < wr.heap.size := HQB.out.lt
          go_wp2_with (first
            | (go_at_call 22; refine (HC.out _).mono ?_; rintro e w6 ⟨rfl, hb6⟩; have hz6 := hb6.size; have HR6 := Lib.hid ((HRD.out.below hb6 HRD.out.lt).below ((Below.refl w6.heap.size w6).alloc (Nat.le_refl _) (rb S at' er')) (by have := HRD.out.lt; omega)); have HQ6 := Lib.hid ((HQB.out.below hb6 HQB.out.lt).alloc (rb S at' er')); have HB6 := Lib.hid ((hb.trans (hb6.mono hb.size)).alloc (by have := hb.size; omega) (rb S at' er')); clear hb6)
            | (go_at_call 23; refine (HG.out _ HR6.out).mono ?_; rintro e w7 ⟨rfl, hr7, ht7⟩; have hx := (Blk.new w6 34 [.string S, .int .i64 at', .int .i64 er']).turn ht7 (fun e => by have := HRD.out.lt; omega); have hq7 := HQ6.out.turn ht7 (fun e => HPQ.out.1 e.symm); have HR7 := Lib.hid hr7; have HQ7 := Lib.hid hq7; have HB7 := Lib.hid (HB6.out.trans (ht7.below (by have := hb.size; simp; omega) (fun k hk => by have := HPQ.out; omega)));
                 have x0 : w7.cell? ⟨w6.heap.size, 0, none⟩ = some (.string S) := hx.cell 0; have x1 : w7.cell? ⟨w6.heap.size, 1, none⟩ = some (.int .i64 at') := hx.cell 1; have x2 : w7.cell? ⟨w6.heap.size, 2, none⟩ = some (.int .i64 er') := hx.cell 2;
                 have z0 : w7.cell? ⟨q, 0, none⟩ = some (.string S) := hq7.cell 0; have z1 : w7.cell? ⟨q, 1, none⟩ = some (.int .i64 at_) := hq7.cell 1; have z2 : w7.cell? ⟨q, 2, none⟩ = some (.int .i64 er) := hq7.cell 2;
                 have y0 := hq7.free 0; have y1 := hq7.free 1; have y2 := hq7.free 2; clear hx hq7 hr7 ht7))
          show KR _ _
          exact HREST.out _ _ at' er' rfl HAL.out (HR7.out.below (((((Below.refl q w7).setCell (Nat.le_refl _) _).setCell (Nat.le_refl _) _).setCell (Nat.le_refl _) _)) HPQ.out.2.2.2) (((HQ7.out.put 0 _).put 1 _).put 2 _) (((HB7.out.setCell HPQ.out.2.1 _).setCell HPQ.out.2.1 _).setCell HPQ.out.2.1 _)
        · obtain ⟨v, at', er', hv⟩ : ∃ v a e, rw_ (2 ^ 2) l at_ er = (v, a, e) := ⟨_, _, _, rfl⟩
          obtain ⟨hvl, hal⟩ := rw_num_lt (2 ^ 2) l at_ er v at' er' hv
          have HAL := Lib.hid (hal HAT.out)
          have HC := Lib.hid (fun w => refNum_any S l HS.out at_ er (2 ^ 2) (by decide) HAT.out (by omega) v at' er' hv w)
          have HG := Lib.hid (fun (W : World) (h : Rdr W p l at_ er) => lget_any p l at_ er 2 (by decide) 2 rfl v at' er' hv W h)
          have HGV := Lib.hid (gv_wrap 2 v (by decide) hvl)
          obtain ⟨V, hV⟩ : ∃ V, wrap64 (v : Int) = V := ⟨_, rfl⟩
          have HV := Lib.hid hV
          simp only [HV.out, HGV.out] at HC HG
          clear hv hvl hal hV b0 hk
          unfold rv at HC
          have q0 : wr.cell? ⟨q, 0, none⟩ = some (.string S) := HQB.out.cell 0
          have q1 : wr.cell? ⟨q, 1, none⟩ = some (.int .i64 at_) := HQB.out.cell 1
          have q2 : wr.cell? ⟨q, 2, none⟩ = some (.int .i64 er) := HQB.out.cell 2
          have hqw : q < wr.heap.size := HQB.out.lt
          go_wp2_with (first
            | (go_at_call 22; refine (HC.out _).mono ?_; rintro e w6 ⟨rfl, hb6⟩; have hz6 := hb6.size; have HR6 := Lib.hid ((HRD.out.below hb6 HRD.out.lt).below ((Below.refl w6.heap.size w6).alloc (Nat.le_refl _) (rb S at' er')) (by have := HRD.out.lt; omega)); have HQ6 := Lib.hid ((HQB.out.below hb6 HQB.out.lt).alloc (rb S at' er')); have HB6 := Lib.hid ((hb.trans (hb6.mono hb.size)).alloc (by have := hb.size; omega) (rb S at' er')); clear hb6)
            | (go_at_call 23; refine (HG.out _ HR6.out).mono ?_; rintro e w7 ⟨rfl, hr7, ht7⟩; have hx := (Blk.new w6 34 [.string S, .int .i64 at', .int .i64 er']).turn ht7 (fun e => by have := HRD.out.lt; omega); have hq7 := HQ6.out.turn ht7 (fun e => HPQ.out.1 e.symm); have HR7 := Lib.hid hr7; have HQ7 := Lib.hid hq7; have HB7 := Lib.hid (HB6.out.trans (ht7.below (by have := hb.size; simp; omega) (fun k hk => by have := HPQ.out; omega)));
                 have x0 : w7.cell? ⟨w6.heap.size, 0, none⟩ = some (.string S) := hx.cell 0; have x1 : w7.cell? ⟨w6.heap.size, 1, none⟩ = some (.int .i64 at') := hx.cell 1; have x2 : w7.cell? ⟨w6.heap.size, 2, none⟩ = some (.int .i64 er') := hx.cell 2;
                 have z0 : w7.cell? ⟨q, 0, none⟩ = some (.string S) := hq7.cell 0; have z1 : w7.cell? ⟨q, 1, none⟩ = some (.int .i64 at_) := hq7.cell 1; have z2 : w7.cell? ⟨q, 2, none⟩ = some (.int .i64 er) := hq7.cell 2;
                 have y0 := hq7.free 0; have y1 := hq7.free 1; have y2 := hq7.free 2; clear hx hq7 hr7 ht7))
          show KR _ _
          exact HREST.out _ _ at' er' rfl HAL.out (HR7.out.below (((((Below.refl q w7).setCell (Nat.le_refl _) _).setCell (Nat.le_refl _) _).setCell (Nat.le_refl _) _)) HPQ.out.2.2.2) (((HQ7.out.put 0 _).put 1 _).put 2 _) (((HB7.out.setCell HPQ.out.2.1 _).setCell HPQ.out.2.1 _).setCell HPQ.out.2.1 _)
        · obtain ⟨v, at', er', hv⟩ : ∃ v a e, rw_ (2 ^ 3) l at_ er = (v, a, e) := ⟨_, _, _, rfl⟩
          obtain ⟨hvl, hal⟩ := rw_num_lt (2 ^ 3) l at_ er v at' er' hv
          have HAL := Lib.hid (hal HAT.out)
          have HC := Lib.hid (fun w => refNum_any S l HS.out at_ er (2 ^ 3) (by decide) HAT.out (by omega) v at' er' hv w)
          have HG := Lib.hid (fun (W : World) (h : Rdr W p l at_ er) => lget_any p l at_ er 3 (by decide) 3 rfl v at' er' hv W h)
          have HGV := Lib.hid (gv_wrap 3 v (by decide) hvl)
          obtain ⟨V, hV⟩ : ∃ V, wrap64 (v : Int) = V := ⟨_, rfl⟩
          have HV := Lib.hid hV
          simp only [HV.out, HGV.out] at HC HG
          clear hv hvl hal hV b0 hk
          unfold rv at HC
          have q0 : wr.cell? ⟨q, 0, none⟩ = some (.string S) := HQB.out.cell 0
          have q1 : wr.cell? ⟨q, 1, none⟩ = some (.int .i64 at_) := HQB.out.cell 1
          have q2 : wr.cell? ⟨q, 2, none⟩ = some (.int .i64 er) := HQB.out.cell 2
          have hqw : q < wr.heap.size := HQB.out.lt
          go_wp2_with (first
            | (go_at_call 22; refine (HC.out _).mono ?_; rintro e w6 ⟨rfl, hb6⟩; have hz6 := hb6.size; have HR6 := Lib.hid ((HRD.out.below hb6 HRD.out.lt).below ((Below.refl w6.heap.size w6).alloc (Nat.le_refl _) (rb S at' er')) (by have := HRD.out.lt; omega)); have HQ6 := Lib.hid ((HQB.out.below hb6 HQB.out.lt).alloc (rb S at' er')); have HB6 := Lib.hid ((hb.trans (hb6.mono hb.size)).alloc (by have := hb.size; omega) (rb S at' er')); clear hb6)
            | (go_at_call 23; refine (HG.out _ HR6.out).mono ?_; rintro e w7 ⟨rfl, hr7, ht7⟩; have hx := (Blk.new w6 34 [.string S, .int .i64 at', .int .i64 er']).turn ht7 (fun e => by have := HRD.out.lt; omega); have hq7 := HQ6.out.turn ht7 (fun e => HPQ.out.1 e.symm); have HR7 := Lib.hid hr7; have HQ7 := Lib.hid hq7; have HB7 := Lib.hid (HB6.out.trans (ht7.below (by have := hb.size; simp; omega) (fun k hk => by have := HPQ.out; omega)));
                 have x0 : w7.cell? ⟨w6.heap.size, 0, none⟩ = some (.string S) := hx.cell 0; have x1 : w7.cell? ⟨w6.heap.size, 1, none⟩ = some (.int .i64 at') := hx.cell 1; have x2 : w7.cell? ⟨w6.heap.size, 2, none⟩ = some (.int .i64 er') := hx.cell 2;
                 have z0 : w7.cell? ⟨q, 0, none⟩ = some (.string S) := hq7.cell 0; have z1 : w7.cell? ⟨q, 1, none⟩ = some (.int .i64 at_) := hq7.cell 1; have z2 : w7.cell? ⟨q, 2, none⟩ = some (.int .i64 er) := hq7.cell 2;
                 have y0 := hq7.free 0; have y1 := hq7.free 1; have y2 := hq7.free 2; clear hx hq7 hr7 ht7))
          show KR _ _
          exact HREST.out _ _ at' er' rfl HAL.out (HR7.out.below (((((Below.refl q w7).setCell (Nat.le_refl _) _).setCell (Nat.le_refl _) _).setCell (Nat.le_refl _) _)) HPQ.out.2.2.2) (((HQ7.out.put 0 _).put 1 _).put 2 _) (((HB7.out.setCell HPQ.out.2.1 _).setCell HPQ.out.2.1 _).setCell HPQ.out.2.1 _)
      · have hc' : K < 0 ∨ (0 ≤ K ∧ 4 ≤ K) := by omega
        clear hc
        rcases hc' with hc | ⟨hc1, hc2⟩
        all_goals
          obtain ⟨t1, at', er', hrt⟩ : ∃ t a e, rt_ M l at_ er = (t, a, e) := ⟨_, _, _, rfl⟩
          have HAL := Lib.hid (rt_le M l at_ er t1 at' er' hrt HAT.out)
          have HC := Lib.hid (fun w => refRText_any S l HS.out at_ er M t1 at' er' hrt HAT.out (by omega) w)
          have HG := Lib.hid (fun (W : World) (h : Rdr W p l at_ er) => text_any p l at_ er M t1 at' er' hrt W h)
          obtain ⟨T1, hT1⟩ : ∃ T : ByteArray, (⟨t1.toArray⟩ : ByteArray) = T := ⟨_, rfl⟩
          rw [hT1] at HC HG
          have q0 : wr.cell? ⟨q, 0, none⟩ = some (.string S) := HQB.out.cell 0
          have q1 : wr.cell? ⟨q, 1, none⟩ = some (.int .i64 at_) := HQB.out.cell 1
          have q2 : wr.cell? ⟨q, 2, none⟩ = some (.int .i64 er) := HQB.out.cell 2
          have hbw : b < wr.heap.size := Nat.lt_of_lt_of_le hbk hb.size
          have hqw : q < wr.heap.size := HQB.out.lt
          clear hrt b0 hk hT1
          unfold rv at HC
          go_wp2
          go_upto_region 15 with fail
          go_cut [11, 12] (fun pv sv wx => ∃ g : Nat, pv = .pointer (some ⟨g, 0, none⟩) ∧ sv = .string T1 ∧ wr.heap.size ≤ g ∧ Blk wx g 34 [.string S, .int .i64 at', .int .i64 er'] ∧ Below wr.heap.size wr wx)
          case first =>
            go_region_with (go_at_call 24; refine (HC.out _).mono ?_; rintro e w6 ⟨rfl, hb6⟩; have hz6 := hb6.size; try (have hx := (Blk.new wr.drew 34 [.string ⟨#[]⟩, .int .i64 0, .int .i64 0]).below hb6 (by simp); have x0 : w6.cell? ⟨wr.heap.size, 0, none⟩ = some (.string ⟨#[]⟩) := hx.cell 0; have x1 : w6.cell? ⟨wr.heap.size, 1, none⟩ = some (.int .i64 0) := hx.cell 1; have x2 : w6.cell? ⟨wr.heap.size, 2, none⟩ = some (.int .i64 0) := hx.cell 2; have y0 : w6.frozen? ⟨wr.heap.size, 0, none⟩ = false := hx.free 0; have y1 : w6.frozen? ⟨wr.heap.size, 1, none⟩ = false := hx.free 1; have y2 : w6.frozen? ⟨wr.heap.size, 2, none⟩ = false := hx.free 2; have HX := Lib.hid hx; clear hx))
            all_goals (go_wp2_with fail; go_meet)
            all_goals first
              | exact ⟨w6.heap.size, rfl, rfl, hz6, Blk.new _ _ _, ((Below.refl wr.heap.size wr).drew.trans hb6).alloc hz6 _⟩
              | exact ⟨wr.heap.size, rfl, rfl, Nat.le_refl _, ((HX.out.put 0 _).put 1 _).put 2 _, (((((Below.refl wr.heap.size wr).alloc (Nat.le_refl _) _).drew.trans (hb6.mono (by simp))).setCell (Nat.le_refl _) _).setCell (Nat.le_refl _) _).setCell (Nat.le_refl _) _⟩
          case rest =>
            obtain ⟨g, rfl, rfl, hgw, hgb, hbx⟩ := hcut
            have hzx := hbx.size
            have hM7 := (hbx.cell (p := ⟨b, off + k * 2 + 1, none⟩) hbw).trans hM
            have HRX := Lib.hid (HRD.out.below hbx HRD.out.lt)
            have HQX := Lib.hid (HQB.out.below hbx HQB.out.lt)
            have HBX := Lib.hid (hb.trans (hbx.mono hb.size))
            have HGB := Lib.hid hgb
            have HNE := Lib.hid (show g ≠ p ∧ w.heap.size ≤ p from ⟨by have := HRD.out.lt; omega, HPQ.out.2.2.1⟩)
            clear q0 q1 q2 hK hM hbx hgb
            go_wp2_with (go_at_call 25; refine (HG.out _ HRX.out).mono ?_; rintro e w7 ⟨rfl, hr7, ht7⟩; have hx := HGB.out.turn ht7 (fun e => HNE.out.1 e); have hq7 := HQX.out.turn ht7 (fun e => HPQ.out.1 e.symm); have HR7 := Lib.hid hr7; have HQ7 := Lib.hid hq7; have HB7 := Lib.hid (HBX.out.trans (ht7.below (by have := HBX.out.size; omega) (fun j hj => by have := HNE.out; omega))); have x0 : w7.cell? ⟨g, 0, none⟩ = some (.string S) := hx.cell 0; have x1 : w7.cell? ⟨g, 1, none⟩ = some (.int .i64 at') := hx.cell 1; have x2 : w7.cell? ⟨g, 2, none⟩ = some (.int .i64 er') := hx.cell 2; have z0 : w7.cell? ⟨q, 0, none⟩ = some (.string S) := hq7.cell 0; have z1 : w7.cell? ⟨q, 1, none⟩ = some (.int .i64 at_) := hq7.cell 1; have z2 : w7.cell? ⟨q, 2, none⟩ = some (.int .i64 er) := hq7.cell 2; have y0 := hq7.free 0; have y1 := hq7.free 1; have y2 := hq7.free 2; clear hx hq7 hr7 ht7)
            show KR _ _
            exact HREST.out _ _ at' er' rfl HAL.out (HR7.out.below (((((Below.refl q w7).setCell (Nat.le_refl _) _).setCell (Nat.le_refl _) _).setCell (Nat.le_refl _) _)) HPQ.out.2.2.2) (((HQ7.out.put 0 _).put 1 _).put 2 _) (((HB7.out.setCell HPQ.out.2.1 _).setCell HPQ.out.2.1 _).setCell HPQ.out.2.1 _)
    · obtain rfl : k = qs.length := by omega
      clear hrd hqb hat
      go_wp2_with (go_at_call 20; refine (lives_any _).mono ?_; rintro e w9 ⟨rfl, hl⟩)
      go_ret
      exact ⟨rfl, bthen' hb hb.size hl⟩

set_option maxRecDepth 100000 in
set_option maxHeartbeats 1000000 in
theorem fieldReads_walk (v0 : Value) (l : List UInt8) (v1 : Value) (qs : List (Int × Int)) (w : World) (s0 : Sl w w.heap.size v0 l) (b0 : l.length ≤ 140737488351232) (s1 : Asks w w.heap.size v1 qs) :
    Calls Try.prog 4 #[v0, v1] w fun e w' => e = .returned (.bool true) ∧ Below w.heap.size w w' := by
  by_cases hbig : (qs.length : Int) ≤ 1000
  · exact fieldReads_some v0 l v1 qs w s0 b0 s1 hbig
  · obtain ⟨i0, hi, hz0, hz1, hz2⟩ := info_parts Try.info5
    obtain ⟨A, cap, rfl, hrd, hm, hn, hle⟩ := s0
    obtain ⟨A1, cap1, rfl, has⟩ := s1
    have S0 := Lib.hid (show Sl w w.heap.size (.slice A l.length cap) l from ⟨A, cap, rfl, hrd, hm, hn, hle⟩)
    obtain ⟨S, hS⟩ : ∃ S : ByteArray, S = ⟨l.toArray⟩ := ⟨_, rfl⟩
    have hconv : ∀ w', Below w.heap.size w w' → (convert 22 9 (.slice A l.length cap)).run Try.prog w' = .ok (.string S) w' := fun w' hb => by
      rw [hS]
      exact run_str _ _ _ 5 _ _ _ Try.underlying22 Try.underlying5 Try.underlying9 fun hp => by obtain ⟨ad, e, _, _, hc⟩ := (hrd.below hb) hp; exact ⟨ad, e, hc⟩
    have HS := Lib.hid hS
    have HI := Lib.hid hi
    have HAS := Lib.hid has
    clear hrd hm hn hS hi has
    have hbig' : (1000 : Int) < qs.length := by omega
    clear hbig
    go_enter Try.func4, Try.ntmps4
    go_wp2_with (first
      | (at_builtin; refine wpList_app_fresh rfl _ _ 22 rfl w.heap.size 5 i0 Try.underlying22 HI.out hz0 hz1 hz2 _ (.slice A l.length cap) l rfl rfl (S0.out.below ((Below.refl _ _).alloc (Nat.le_refl _) _) (Nat.le_refl _)) (by omega) ?_; intro v4 w4 hs4 hb4; have HS4 := Lib.hid hs4; clear hs4)
      | (go_at_call 20; refine (lives_any _).mono ?_; rintro e w9 ⟨rfl, hl⟩)
      | (go_at_call 21; refine (newReader_any _ _ _ _ HS4.out (Nat.le_refl _) (by omega)).mono ?_; rintro e w5 ⟨p, rfl, hr5, hp5, hb5⟩; have hz4 := hb4.size; have hz5 := hb5.size; simp at hz4; have hB5 : Below w.heap.size w w5 := ((Below.refl _ _).alloc (Nat.le_refl _) _).trans ((hb4.mono (by simp)).trans (hb5.mono (by omega))); have hcv := hconv w5 hB5; have HR5 := Lib.hid hr5; have HPP := Lib.hid hp5; clear hr5 hb5 hb4))
    go_ret
    exact ⟨rfl, bthen' (hB5.alloc hB5.size _) (by have := hB5.size; simp; omega) hl⟩
end Go.Proofs.Ytcebhoilokmhdaa
