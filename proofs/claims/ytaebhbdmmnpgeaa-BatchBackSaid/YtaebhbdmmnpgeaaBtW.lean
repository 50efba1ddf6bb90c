/- Layer 15: the document's Read. -/
import Derived.Test.YtaebhbdmmnpgeaaBtV
import Derived.Test.YtaebhbdmmnpgeaaBtR
namespace Go.Proofs.Ytaebhbdmmnpgeaa
open Go.RowKit Go.Shelf
set_option linter.unusedVariables false
set_option linter.unusedSimpArgs false
set_option maxRecDepth 100000
attribute [local go_sem] Oper.semAt_some

set_option maxHeartbeats 4000000 in
theorem refPiece_15 (S : ByteArray) (hS : S.size ≤ 140737488355000) (at_ : Int) (h0 : -1 ≤ at_) (h1 : at_ ≤ S.size) (w : World) :
    Calls Try.prog 50 #[.string S, .int .i64 at_] w fun e w' => ∃ (T : ByteArray) (at' : Int), e = .returned (.tuple #[.string T, .int .i64 at']) ∧ w = w' ∧ T.size ≤ 255 ∧ -1 ≤ at' ∧ at' ≤ S.size ∧ ∀ (P : List UInt8) (k : ByteArray) (R : List UInt8), k.size ≤ 255 → S.data.toList = P ++ sh15 k ++ R → (P.length : Int) = at_ → T = k ∧ at' = at_ + 1 + k.size := by
  have hlen := len_bs S
  by_cases hn : at_ < 0
  · have hn2 : (at_ < 0) := hn
    go_enter Try.func50, Try.ntmps50
    go_wp2_with fail
    go_ret2
    exact ⟨_, _, rfl, rfl, by simp [ByteArray.size], by omega, by omega, fun P k R _ _ hP => by omega⟩
  · by_cases hb : (S.size : Int) ≤ at_
    · go_enter Try.func50, Try.ntmps50
      go_wp2_with fail
      go_ret2
      refine ⟨_, _, rfl, rfl, by simp [ByteArray.size], by omega, by omega, fun P k R _ hL hP => ?_⟩
      have := congrArg List.length hL
      rw [List.length_append, List.length_append, len_sh15] at this
      omega
    · obtain ⟨j, rfl⟩ : ∃ j : Nat, at_ = j := ⟨at_.toNat, by omega⟩
      have hj : j < S.size := by omega
      have hj0 : ¬ ((j : Int) < 0) := by omega
      have hj1 : ¬ ((S.size : Int) ≤ (j : Int)) := by omega
      have hc1 := S[j].toNat_lt
      have hw := wrap_of (S[j].toNat : Int) (by omega) (by omega)
      have hbyte : ∀ (P : List UInt8) (k : ByteArray) (R : List UInt8), k.size ≤ 255 → S.data.toList = P ++ sh15 k ++ R → (P.length : Int) = (j : Int) → S[j].toNat = k.size ∧ S.data.toList = (P ++ fld 1 (k.size : Int)) ++ k.data.toList ++ R := by
        intro P k R hk hL hP
        have hP2 : P.length = j := by omega
        unfold sh15 at hL
        refine ⟨?_, by rw [hL]; simp only [List.append_assoc]⟩
        have h1 := rd_fld 1 (by decide) (k.size : Int) (by omega) (by simp; omega) S.data.toList P (k.data.toList ++ R) j (by rw [hL]; simp only [List.append_assoc]) hP2
        have h2 := rd_byte S[j] S.data.toList (S.data.toList.take j) (S.data.toList.drop (j + 1)) j (by
          have h3 : S.data.toList[j]? = some S[j] := by rw [List.getElem?_eq_getElem (by omega)]; rfl
          rw [← dropS h3, List.take_append_drop]) (by rw [List.length_take]; omega)
        rw [h1] at h2
        injection h2 with h3 _
        omega
      have HBT := Lib.hid hbyte
      clear hbyte
      by_cases hg : (S.size : Int) - j - 1 < S[j].toNat
      · go_enter Try.func50, Try.ntmps50
        go_wp2_with fail
        go_ret2
        refine ⟨_, _, rfl, rfl, by simp [ByteArray.size], by omega, by omega, fun P k R hk hL hP => ?_⟩
        obtain ⟨g1, g2⟩ := HBT.out P k R hk (by rw [hL]; simp only [List.append_assoc]) hP
        have := congrArg List.length g2
        simp only [List.length_append, len_fld, len_bs] at this
        omega
      · have hg2 : ¬ ((S.size : Int) - j - 1 < S[j].toNat) := hg
        have hs1 : (j : Int) + 1 ≤ (j : Int) + 1 + S[j].toNat := by omega
        have hs2 : (j : Int) + 1 + S[j].toNat ≤ S.size := by omega
        go_enter Try.func50, Try.ntmps50
        go_wp2_with fail
        go_ret2
        refine ⟨_, _, rfl, rfl, by simp [ByteArray.size_extract]; omega, by omega, by omega, fun P k R hk hL hP => ?_⟩
        obtain ⟨g1, g2⟩ := HBT.out P k R hk (by rw [hL]; simp only [List.append_assoc]) hP
        refine ⟨?_, by omega⟩
        rw [ba_self (S.extract _ _), ba_self k]
        congr 2
        rw [ByteArray.data_extract, Array.toList_extract, List.extract_eq_take_drop, g2, List.append_assoc, List.drop_left' (by rw [List.length_append, len_fld]; omega), show j + 1 + S[j].toNat - (j + 1) = k.data.toList.length from by rw [len_bs]; omega, List.take_left]
theorem nfld_val15 (l : List UInt8) : nfld l.length (val l) = l := by
  induction l with
  | nil => rfl
  | cons c l ih =>
    have hv : val l < 256 ^ l.length := val_lt l
    have hp : 2 ^ (8 * l.length) = 256 ^ l.length := by rw [Nat.pow_mul]
    show UInt8.ofNat (val (c :: l) / 2 ^ (8 * l.length) % 256) :: nfld l.length (val (c :: l)) = _
    rw [val_cons, ← nfld_mod l.length (8 * l.length) _ (Nat.le_refl _), hp, Nat.mul_comm, Nat.mul_add_mod, Nat.mod_eq_of_lt hv, ih, Nat.mul_add_div (Nat.pow_pos (by decide)), Nat.div_eq_of_lt hv, Nat.add_zero, Nat.mod_eq_of_lt c.toNat_lt]
    simp
theorem fld_num15 (k : Nat) (l : List UInt8) (at_ : Nat) (h : at_ + k ≤ l.length) : fld k (num k l at_ : Int) = (l.drop at_).take k := by
  rw [fld_nat]
  unfold num
  have hl : ((l.drop at_).take k).length = k := by rw [List.length_take, List.length_drop]; omega
  have := nfld_val15 ((l.drop at_).take k)
  rwa [hl] at this

theorem rw_num {k : Nat} {L : List UInt8} {n v n' : Nat} (h : rw_ k L n 0 = (v, n', 0)) : num k L n = v ∧ n + k ≤ L.length := by
  unfold rw_ at h
  rw [if_pos rfl] at h
  split at h
  · injection h with _ h; injection h with _ h; cases h
  · injection h with h _; exact ⟨h, by omega⟩
theorem head_of {S : ByteArray} {b : Nat} (h0 : 0 < S.size) (h : rw_ 1 S.data.toList 0 0 = (b, 1, 0)) : S[0].toNat = b := by
  have h2 := rd_byte S[0] S.data.toList [] (S.data.toList.drop 1) 0 (by
    have h3 : S.data.toList[0]? = some S[0] := by rw [List.getElem?_eq_getElem (by rw [len_bs]; exact h0)]; rfl
    rw [← dropS h3]; rfl) rfl
  rw [h] at h2
  injection h2 with h3 _
  exact h3.symm
theorem on_size {S : ByteArray} {t : Int} {C : List Cg} (h : On15 S.data.toList t C) : 10 ≤ S.size := by
  have e := congrArg List.length h.2
  unfold rec15 at e
  simp only [List.length_append, len_fld, len_bs] at e
  omega
theorem mrk_size {S : ByteArray} {m : Int} (h : mrk15 m = S.data.toList) : S.size = 9 := by
  have e := congrArg List.length h
  unfold mrk15 at e
  simp only [List.length_append, len_fld, len_bs] at e
  omega
/-- No record, and no mark. -/
theorem res_no {S : ByteArray} (h1 : ∀ t C, ¬ On15 S.data.toList t C) (h2 : ∀ m, mok15 m = true → mrk15 m ≠ S.data.toList) : Res15 S 0 [] 0 4 := .inr (.inr ⟨rfl, rfl, rfl, rfl, fun t C h => h1 t C (by_on h).1, h2⟩)
theorem mark_here {S : ByteArray} (h9 : S.size = 9) (h0 : S[0]'(by omega) = 77) (m : Int) (hm : m = wrap64 (num 8 S.data.toList 1 : Int)) : (mok15 m = true → Res15 S 0 [] m 0) ∧ (mok15 m = false → ∀ k, mok15 k = true → mrk15 k ≠ S.data.toList) := by
  have hlt := num_lt 8 S.data.toList 1
  simp only [Nat.reducePow] at hlt
  refine ⟨fun hok => .inr (.inl ⟨rfl, rfl, rfl, hok, ?_⟩), fun hok k hk e => ?_⟩
  · have hk := hok
    unfold mok15 at hk
    simp at hk
    have hmn : m = (num 8 S.data.toList 1 : Int) := by rw [hm] at hk ⊢; unfold wrap64 at hk ⊢; omega
    unfold mrk15
    rw [hmn, fld_num15 8 _ 1 (by rw [len_bs]; omega)]
    have h3 : S.data.toList[0]? = some (77 : UInt8) := by rw [← h0, List.getElem?_eq_getElem (by rw [len_bs]; omega)]; rfl
    have h4 := dropS h3
    rw [List.take_of_length_le (by rw [List.length_drop, len_bs]; omega), show fld 1 77 = [77] from by decide]
    exact h4.symm
  · have hk2 := hk
    unfold mok15 at hk2
    simp at hk2
    have g := rw_num (mrk_i64 hk2.1 hk2.2)
    rw [e] at g
    have hmk : m = k := by rw [hm, g.1]; unfold wrap64; omega
    rw [hmk, hk] at hok
    cases hok
/-- Where the document's reading stands. -/
def Ny (L : List UInt8) (D : List Cg) (at_ : Int) : Prop := ∀ t C, On15 L t C → D = C.take D.length ∧ D.length ≤ C.length ∧ at_ = 10 + (D.flatMap chB).length
theorem ny_start (L : List UInt8) : Ny L [] 10 := fun t C _ => ⟨rfl, Nat.zero_le _, rfl⟩
/-- How the document's piece reads. -/
def Pce (L : List UInt8) (at_ : Int) (T : ByteArray) (at' : Int) : Prop := ∀ (P : List UInt8) (k : ByteArray) (R : List UInt8), k.size ≤ 255 → L = P ++ sh15 k ++ R → (P.length : Int) = at_ → T = k ∧ at' = at_ + 1 + k.size
theorem ny_more {S : ByteArray} {D : List Cg} {at_ : Int} (h : Ny S.data.toList D at_) {t : Int} {C : List Cg} (hC : On15 S.data.toList t C) (hl : D.length < C.length) : 0 ≤ at_ ∧ at_ < S.size ∧ (S[9]'(by have := on_size hC; omega)).toNat = C.length := by
  obtain ⟨h1, h2, h3⟩ := h t C hC
  obtain ⟨x, R, hx, _, hL, hlen⟩ := on_mid hC h1 hl
  have e := congrArg List.length hL
  rw [List.length_append, List.length_append, hlen, len_chB, len_bs] at e
  refine ⟨by omega, by omega, ?_⟩
  have g := (on_head hC).2.2
  have hz := on_size hC
  have h2 := rd_byte S[9] S.data.toList (S.data.toList.take 9) (S.data.toList.drop 10) 9 (by
    have h3 : S.data.toList[9]? = some S[9] := by rw [List.getElem?_eq_getElem (by rw [len_bs]; omega)]; rfl
    rw [← dropS h3, List.take_append_drop]) (by rw [List.length_take, len_bs]; omega)
  rw [g] at h2
  injection h2 with h3 _
  exact h3.symm
theorem ny_step {S : ByteArray} {D : List Cg} {j : Nat} {a1 a2 : Int} {T1 T2 : ByteArray} {dd : Bool} (hj : j < S.size) (h : Ny S.data.toList D j) (hlt : ∀ t C, On15 S.data.toList t C → D.length < C.length) (hd : dd = ((S[j].toNat : Int) == 1)) (hp1 : Pce S.data.toList ((j : Int) + 1) T1 a1) (hp2 : Pce S.data.toList a1 T2 a2) : Ny S.data.toList (D ++ [⟨T1, T2, dd⟩]) a2 := by
  intro t C hC
  obtain ⟨h1, h2, h3⟩ := h t C hC
  obtain ⟨x, R, hx, htk, hL, hlen⟩ := on_mid hC h1 (hlt t C hC)
  have hsm := hC.small.2.1 x (List.mem_of_getElem? hx)
  generalize hP : ((fld 1 66 ++ fld 8 t) ++ fld 1 (C.length : Int)) ++ D.flatMap chB = P at hL hlen
  have hPj : P.length = j := by omega
  unfold chB at hL
  have g1 := rd_fld 1 (by decide) (if x.d then 1 else 0) (by split <;> decide) (by split <;> decide) S.data.toList P (sh15 x.k ++ sh15 x.v ++ R) j (by rw [hL]; simp only [List.append_assoc]) hPj
  have g2 := rd_byte S[j] S.data.toList (S.data.toList.take j) (S.data.toList.drop (j + 1)) j (by
    have h3 : S.data.toList[j]? = some S[j] := by rw [List.getElem?_eq_getElem (by rw [len_bs]; omega)]; rfl
    rw [← dropS h3, List.take_append_drop]) (by rw [List.length_take, len_bs]; omega)
  rw [g1] at g2
  injection g2 with hv _
  obtain ⟨rfl, e1⟩ := hp1 (P ++ fld 1 (if x.d then 1 else 0)) x.k (sh15 x.v ++ R) hsm.1 (by rw [hL]; simp only [List.append_assoc]) (by rw [List.length_append, len_fld, hPj]; omega)
  obtain ⟨rfl, e2⟩ := hp2 (P ++ fld 1 (if x.d then 1 else 0) ++ sh15 x.k) x.v R hsm.2 (by rw [hL]; simp only [List.append_assoc]) (by rw [List.length_append, List.length_append, len_fld, hPj, len_sh15]; omega)
  have hdd : dd = x.d := by
    rw [hd, ← hv]
    cases x.d <;> rfl
  have hxx : (⟨x.k, x.v, dd⟩ : Cg) = x := by rw [hdd]
  rw [hxx]
  refine ⟨by rw [List.length_append, List.length_singleton, htk], by rw [List.length_append, List.length_singleton]; exact hlt t C hC, ?_⟩
  rw [List.flatMap_append, List.length_append, List.flatMap_singleton, len_chB]
  omega
theorem ny_end {S : ByteArray} {D : List Cg} {at_ : Int} (h : Ny S.data.toList D at_) (hz : 9 < S.size) (hn : ¬ (D.length < S[9].toNat ∧ 0 ≤ at_ ∧ at_ < S.size)) {t : Int} {C : List Cg} (hC : On15 S.data.toList t C) : D = C ∧ 0 ≤ at_ := by
  obtain ⟨h1, h2, h3⟩ := h t C hC
  refine ⟨?_, by omega⟩
  rcases Nat.lt_or_ge D.length C.length with hl | hl
  · obtain ⟨g1, g2, g3⟩ := ny_more h hC hl
    exact absurd ⟨by omega, g1, g2⟩ hn
  · rw [h1]
    exact List.take_of_length_le hl
end Go.Proofs.Ytaebhbdmmnpgeaa
/- Layer 15: the document's Read, walked. -/
namespace Go.Proofs.Ytaebhbdmmnpgeaa
open Go.RowKit Go.Shelf
set_option linter.unusedVariables false
set_option linter.unusedSimpArgs false
set_option maxRecDepth 100000
attribute [local go_sem] Oper.semAt_some

/-- What the document's Read answers. -/
def RPost (S : ByteArray) (w : World) (e : Ending) (w' : World) : Prop := ∃ (t : Int) (v : Value) (D : List Cg) (m er : Int), e = .returned (.tuple #[.agg #[.int .i64 t, v], .int .i64 m, .int .i64 er]) ∧ Cx w' v D ∧ Res15 S t D m er ∧ D.length ≤ 255 ∧ Turn (fun _ => False) w w'
set_option maxHeartbeats 8000000 in
theorem refRead_not (S : ByteArray) (hS : S.size ≤ 140737488355000) (hnb : ¬ ∃ h : 9 < S.size, S[0].toNat = 66) (w : World) :
    Calls Try.prog 13 #[.string S] w (RPost S w) := by
  have hno : ∀ t C, ¬ On15 S.data.toList t C := fun t C h => hnb ⟨by have := on_size h; omega, head_of _ (on_head h).1⟩
  have HNO := Lib.hid hno
  have HNB := Lib.hid hnb
  clear hnb hno
  obtain ⟨z0, z1, z2, z3⟩ := cells2g (Blk.new w 24 [.int .i64 0, .slice none 0 0])
  by_cases h9 : S.size = 9
  · have hpos : 0 < S.size := by omega
    have hn9 : ((S.size : Int) == 9) = true := by rw [h9]; rfl
    have hi : (0 : Int) < S.size := by omega
    have h10 : (S.size : Int) < 10 := by omega
    obtain ⟨m, hm⟩ : ∃ m, m = wrap64 (num 8 S.data.toList 1 : Int) := ⟨_, rfl⟩
    have HN := Lib.hid (fun W => by have := refNumber_any S S.data.toList (ba_self S) 1 8 (by decide) (by rw [len_bs]; omega) (by rw [len_bs]; omega) W; rw [← hm] at this; exact this)
    by_cases h0 : S[0]'hpos = 77
    · obtain ⟨hm1, hm2⟩ := mark_here h9 h0 m hm
      have HM1 := Lib.hid hm1
      have HM2 := Lib.hid hm2
      have hb : (((S[0]'hpos).toNat : Int) == 77) = true := by rw [h0]; rfl
      clear h9 h0 hm hm1 hm2
      by_cases hok : 0 ≤ m ∧ m ≤ 1152921504606846976
      · obtain ⟨ho1, ho2⟩ := hok
        have HOK := Lib.hid (mok_yes ho1 ho2)
        go_enter Try.func13, Try.ntmps13
        go_wp2_with (first
          | (go_at_call 49; refine (HN.out _).mono ?_; rintro e w1 ⟨rfl, hw1⟩; subst hw1))
        obtain ⟨BZ, TZ⟩ := box2g (Blk.new w 24 [.int .i64 0, .slice none 0 0]) (.int .i64 0) (.slice none 0 0)
        obtain ⟨r0, r1⟩ := cells2b BZ
        refine bodyPost_ret (v := .tuple #[.agg #[.int .i64 0, .slice none 0 0], .int .i64 m, .int .i64 0]) (by simp [results, Try.results13, go_sem, r0, r1]) rfl ⟨0, .slice none 0 0, [], m, 0, rfl, (co_nil 0 _).cx (by simp), HM1.out HOK.out, by simp, by first | exact ((Turn.refl (fun _ => False) w).alloc _).trans_new TZ (fun k hk e => by omega) | exact (Turn.refl (fun _ => False) w).alloc _⟩
      · have HOK := Lib.hid (mok_no (m := m) (by omega))
        have HRS := Lib.hid (res_no HNO.out (HM2.out HOK.out))
        have hcase : (0 ≤ m ∧ ¬ m ≤ 1152921504606846976) ∨ ¬ 0 ≤ m := by omega
        clear hok
        rcases hcase with ⟨ho1, ho2⟩ | ho1
        · skip
          go_enter Try.func13, Try.ntmps13
          go_wp2_with (first
            | (go_at_call 49; refine (HN.out _).mono ?_; rintro e w1 ⟨rfl, hw1⟩; subst hw1))
          obtain ⟨BZ, TZ⟩ := box2g (Blk.new w 24 [.int .i64 0, .slice none 0 0]) (.int .i64 0) (.slice none 0 0)
          obtain ⟨r0, r1⟩ := cells2b BZ
          refine bodyPost_ret (v := .tuple #[.agg #[.int .i64 0, .slice none 0 0], .int .i64 0, .int .i64 4]) (by simp [results, Try.results13, go_sem, r0, r1]) rfl ⟨0, .slice none 0 0, [], 0, 4, rfl, (co_nil 0 _).cx (by simp), HRS.out, by simp, by first | exact ((Turn.refl (fun _ => False) w).alloc _).trans_new TZ (fun k hk e => by omega) | exact (Turn.refl (fun _ => False) w).alloc _⟩
        · skip
          go_enter Try.func13, Try.ntmps13
          go_wp2_with (first
            | (go_at_call 49; refine (HN.out _).mono ?_; rintro e w1 ⟨rfl, hw1⟩; subst hw1))
          obtain ⟨BZ, TZ⟩ := box2g (Blk.new w 24 [.int .i64 0, .slice none 0 0]) (.int .i64 0) (.slice none 0 0)
          obtain ⟨r0, r1⟩ := cells2b BZ
          refine bodyPost_ret (v := .tuple #[.agg #[.int .i64 0, .slice none 0 0], .int .i64 0, .int .i64 4]) (by simp [results, Try.results13, go_sem, r0, r1]) rfl ⟨0, .slice none 0 0, [], 0, 4, rfl, (co_nil 0 _).cx (by simp), HRS.out, by simp, by first | exact ((Turn.refl (fun _ => False) w).alloc _).trans_new TZ (fun k hk e => by omega) | exact (Turn.refl (fun _ => False) w).alloc _⟩
    · have hb : (((S[0]'hpos).toNat : Int) == 77) = false := by
        rw [beq_eq_false_iff_ne]
        intro e
        exact h0 (UInt8.toNat_inj.1 (by rw [show (77 : UInt8).toNat = 77 from rfl]; omega))
      have HRS := Lib.hid (res_no HNO.out (fun m _ hm => by
        have := head_of hpos (mrk_head m _ hm)
        exact h0 (UInt8.toNat_inj.1 (by rw [show (77 : UInt8).toNat = 77 from rfl]; omega))))
      clear h0 hm h9
      go_enter Try.func13, Try.ntmps13
      go_wp2_with fail
      obtain ⟨BZ, TZ⟩ := box2g (Blk.new w 24 [.int .i64 0, .slice none 0 0]) (.int .i64 0) (.slice none 0 0)
      obtain ⟨r0, r1⟩ := cells2b BZ
      refine bodyPost_ret (v := .tuple #[.agg #[.int .i64 0, .slice none 0 0], .int .i64 0, .int .i64 4]) (by simp [results, Try.results13, go_sem, r0, r1]) rfl ⟨0, .slice none 0 0, [], 0, 4, rfl, (co_nil 0 _).cx (by simp), HRS.out, by simp, by first | exact ((Turn.refl (fun _ => False) w).alloc _).trans_new TZ (fun k hk e => by omega) | exact (Turn.refl (fun _ => False) w).alloc _⟩
  · have hn9 : ((S.size : Int) == 9) = false := by simp; omega
    have HRS := Lib.hid (res_no HNO.out (fun m _ hm => h9 (mrk_size hm)))
    clear h9
    by_cases h10 : (S.size : Int) < 10
    · skip
      go_enter Try.func13, Try.ntmps13
      go_wp2_with fail
      obtain ⟨BZ, TZ⟩ := box2g (Blk.new w 24 [.int .i64 0, .slice none 0 0]) (.int .i64 0) (.slice none 0 0)
      obtain ⟨r0, r1⟩ := cells2b BZ
      refine bodyPost_ret (v := .tuple #[.agg #[.int .i64 0, .slice none 0 0], .int .i64 0, .int .i64 4]) (by simp [results, Try.results13, go_sem, r0, r1]) rfl ⟨0, .slice none 0 0, [], 0, 4, rfl, (co_nil 0 _).cx (by simp), HRS.out, by simp, by first | exact ((Turn.refl (fun _ => False) w).alloc _).trans_new TZ (fun k hk e => by omega) | exact (Turn.refl (fun _ => False) w).alloc _⟩
    · have hpos : 0 < S.size := by omega
      have hi : (0 : Int) < S.size := by omega
      have hb : (((S[0]'hpos).toNat : Int) == 66) = false := by
        rw [beq_eq_false_iff_ne]
        intro e
        exact HNB.out ⟨by omega, by omega⟩
      go_enter Try.func13, Try.ntmps13
      go_wp2_with fail
      obtain ⟨BZ, TZ⟩ := box2g (Blk.new w 24 [.int .i64 0, .slice none 0 0]) (.int .i64 0) (.slice none 0 0)
      obtain ⟨r0, r1⟩ := cells2b BZ
      refine bodyPost_ret (v := .tuple #[.agg #[.int .i64 0, .slice none 0 0], .int .i64 0, .int .i64 4]) (by simp [results, Try.results13, go_sem, r0, r1]) rfl ⟨0, .slice none 0 0, [], 0, 4, rfl, (co_nil 0 _).cx (by simp), HRS.out, by simp, by first | exact ((Turn.refl (fun _ => False) w).alloc _).trans_new TZ (fun k hk e => by omega) | exact (Turn.refl (fun _ => False) w).alloc _⟩
end Go.Proofs.Ytaebhbdmmnpgeaa
/- Layer 15: the document's Read of a batch, walked. -/
namespace Go.Proofs.Ytaebhbdmmnpgeaa
open Go.RowKit Go.Shelf
set_option linter.unusedVariables false
set_option linter.unusedSimpArgs false
set_option maxRecDepth 100000
attribute [local go_sem] Oper.semAt_some

/-- What the document's Read holds: its result, the batch. -/
structure Gb (w X : World) (b6 : Nat) (tm : Int) (v : Value) (D : List Cg) : Prop where
  A : Blk X w.heap.size 24 [.int .i64 0, .slice none 0 0]
  B6 : Blk X b6 24 [.int .i64 tm, v]
  co : Co (b6 + 1) X v D
  l1 : w.heap.size < b6
  t : Turn (fun _ => False) w X
section
variable {w X X' : World} {b6 : Nat} {tm : Int} {v v' : Value} {D D' : List Cg}
theorem Gb.ow (h : Gb w X b6 tm v D) : ∀ k, v.ownBlock = some k → b6 + 1 ≤ k ∧ k < X.heap.size := fun k hk => own_ge9 h.co k hk
theorem Gb.still (h : Gb w X b6 tm v D) (ht : Turn (fun _ => False) X X') : Gb w X' b6 tm v D :=
  ⟨h.A.turn ht (fun e => e), h.B6.turn ht (fun e => e), own_tn15 h.co ht (fun k hk e => e), h.l1, h.t.trans ht⟩
theorem Gb.set9 {X0 : World} {g : Nat} (h0 : Gb w X0 b6 tm v D) (hg : X0.heap.size ≤ g) (h : Gb w X b6 tm v D) (i : Nat) (u : Value) : Gb w (X.setCell ⟨g, i, none⟩ u) b6 tm v D := by
  have h1 := h.l1
  have hb := h0.B6.lt
  have ht : Turn (fun k => k = g) X (X.setCell ⟨g, i, none⟩ u) := (Turn.refl (fun k => k = g) X).setCell (p := ⟨g, i, none⟩) (.inl rfl) _
  have hw := h0.t.size
  exact ⟨h.A.turn ht (fun e => by omega), h.B6.turn ht (fun e => by omega), own_tn15 h.co ht (fun k hk e => by have := h0.ow k hk; omega), h1, h.t.trans_new ht (fun k hk e => by omega)⟩
theorem Gb.b6_app (h : Gb w X b6 tm v D) (hT : Turn (fun k => v.ownBlock = some k) X X') : Blk X' b6 24 [.int .i64 tm, v] := by
  exact h.B6.turn hT (fun e => by have := h.ow _ e; omega)
theorem Gb.app (h : Gb w X b6 tm v D) (hc : Co (b6 + 1) X' v' D') (hT : Turn (fun k => v.ownBlock = some k) X X') : Gb w (X'.setCell ⟨b6, 1, none⟩ v') b6 tm v' D' := by
  have h1 := h.l1
  have hno : ∀ k, k ≤ b6 → ¬ v.ownBlock = some k := fun k hk e => by have := h.ow k e; omega
  have hB6 := h.b6_app hT
  have hA := h.A.turn hT (hno _ (by omega))
  have ht : Turn (fun k => k = b6) X' (X'.setCell ⟨b6, 1, none⟩ v') := (Turn.refl (fun k => k = b6) X').setCell (p := ⟨b6, 1, none⟩) (.inl rfl) _
  have hw := h.t.size
  exact ⟨hA.turn ht (fun e => by omega), hB6.put 1 _, own_tn15 hc ht (fun k hk e => by have := (own_ge9 hc k hk).1; omega), h1, (h.t.trans_new hT (fun k hk e => absurd e (hno k (by omega)))).trans_new ht (fun k hk e => by omega)⟩
theorem Gb.cxA (h : Gb w X b6 tm v D) (hl : D.length ≤ 255) (ht : Turn (fun k => k = w.heap.size) X X') : Cx X' v D := by
  have h1 := h.l1
  have hc : Co (b6 + 1) X' v D := own_tn15 h.co ht (fun k hk e => by have := h.ow k hk; omega)
  exact hc.cx (by omega)
end
theorem by_zero {t : Int} {C : List Cg} {o : ByteArray} (h : by15 t C = (o, 0)) : rg15 t C = true ∧ (⟨(rec15 t C).toArray⟩ : ByteArray) = o := by
  unfold by15 at h
  split at h
  · rename_i hr
    split at h
    · injection h with h1 _
      exact ⟨hr, h1⟩
    · injection h with _ h2; cases h2
  · injection h with _ h2; cases h2
theorem on_time {S : ByteArray} {t : Int} {C : List Cg} (h : On15 S.data.toList t C) : wrap64 (num 8 S.data.toList 1 : Int) = t := by
  have g := rw_num (on_head h).2.1
  have s := h.small
  rw [g.1]
  unfold wrap64
  omega
set_option maxHeartbeats 8000000 in
theorem refRead_is (S : ByteArray) (hS : S.size ≤ 140737488355000) (hz : 9 < S.size) (h66 : S[0].toNat = 66) (w : World) :
    Calls Try.prog 13 #[.string S] w (RPost S w) := by
  obtain ⟨z0, z1, z2, z3⟩ := cells2g (Blk.new w 24 [.int .i64 0, .slice none 0 0])
  have hn9 : ((S.size : Int) == 9) = false := by simp; omega
  have h10 : ¬ (S.size : Int) < 10 := by omega
  have hi : (0 : Int) < S.size := by omega
  have hi9 : (9 : Int) < S.size := by omega
  have hb : ((S[0].toNat : Int) == 66) = true := by rw [h66]; rfl
  have hc1 := S[9].toNat_lt
  have hw9 := wrap_of (S[9].toNat : Int) (by omega) (by omega)
  obtain ⟨t0, ht0⟩ : ∃ m, m = wrap64 (num 8 S.data.toList 1 : Int) := ⟨_, rfl⟩
  have HN := Lib.hid (fun W => by have := refNumber_any S S.data.toList (ba_self S) 1 8 (by decide) (by rw [len_bs]; omega) (by rw [len_bs]; omega) W; rw [← ht0] at this; exact this)
  have HT0 := Lib.hid ht0
  have HPC := Lib.hid (fun (at_ : Int) (h0 : -1 ≤ at_) (h1 : at_ ≤ S.size) W => refPiece_15 S hS at_ h0 h1 W)
  have HZ := Lib.hid hz
  clear ht0 h66
  obtain ⟨Wa, hWa⟩ : ∃ W, w.alloc (.cells #[.int .i64 0, .slice none 0 0] 24) = W := ⟨_, rfl⟩
  have hab : w.heap.size < Wa.heap.size := by rw [← hWa]; simp
  have G0 : Hid (Gb w (Wa.alloc (.cells #[.int .i64 t0, .slice none 0 0] 24)) Wa.heap.size t0 (.slice none 0 0) []) := Lib.hid
    ⟨(show Blk Wa w.heap.size 24 [.int .i64 0, .slice none 0 0] from hWa ▸ Blk.new _ _ _).alloc _, Blk.new _ _ _, co_nil _ _, hab, (hWa ▸ (Turn.refl (fun _ => False) w).alloc _ : Turn (fun _ => False) w Wa).alloc _⟩
  go_enter Try.func13, Try.ntmps13
  go_wp2_with (first
    | (go_at_call 49; refine (HN.out _).mono ?_; rintro e w1 ⟨rfl, hw1⟩; subst hw1))
  have hWA := Lib.hid hWa
  go_loopw [7, 8] (fun u i wr => ∃ (j : Nat) (atv : Int) (AV : Option Addr) (cV : Nat) (D : List Cg), u = .int .i64 atv ∧ i = .int .i64 j ∧ D.length = j ∧ j ≤ 255 ∧ -1 ≤ atv ∧ atv ≤ S.size ∧ Hid (Gb w wr Wa.heap.size t0 (.slice AV j cV) D) ∧ Hid (Ny S.data.toList D atv)) (fun _ i _ => 256 - (intOf i).toNat)
  case atStart =>
    exact ⟨0, 10, none, 0, [], rfl, by go_num, rfl, by omega, by omega, by omega, G0, Lib.hid (ny_start _)⟩
  case round =>
    obtain ⟨j, atv, AV, cV, D, rfl, rfl, hDj, hj, ha1, ha2, HG, HNY⟩ := hrel
    have HDJ := Lib.hid hDj
    clear hDj z0 z1 z2 z3
    by_cases hcond : j < S[9].toNat ∧ 0 ≤ atv ∧ atv < S.size
    · obtain ⟨c1, c2, c3⟩ := hcond
      have HMORE := Lib.hid (fun t C (hC : On15 S.data.toList t C) => (HNY.out t C hC).2.1)
      obtain ⟨a, rfl⟩ : ∃ a : Nat, atv = a := ⟨atv.toNat, by omega⟩
      have hca : (j : Int) < S[9].toNat := by omega
      have hcn : a < S.size := by omega
      have HLT := Lib.hid (show ∀ t C, On15 S.data.toList t C → D.length < C.length from fun t C hC => by
        have g := (on_head hC).2.2
        have h2 := rd_byte S[9] S.data.toList (S.data.toList.take 9) (S.data.toList.drop 10) 9 (by
          have h3 : S.data.toList[9]? = some S[9] := by rw [List.getElem?_eq_getElem (by rw [len_bs]; omega)]; rfl
          rw [← dropS h3, List.take_append_drop]) (by rw [List.length_take, len_bs]; omega)
        rw [g] at h2
        injection h2 with h3 _
        rw [HDJ.out]; omega)
      obtain ⟨y0, y1⟩ := cells2b HG.out.B6
      have G1 : Hid (Gb w (wr.alloc (.cells #[.string ⟨#[]⟩, .string ⟨#[]⟩, .bool ((S[a].toNat : Int) == 1)] 92)) Wa.heap.size t0 (.slice AV j cV) D) := Lib.hid (HG.out.still ((Turn.refl _ _).alloc _))
      have hgb := HG.out.B6.lt
      have hwr : Hid (w.heap.size < wr.heap.size) := Lib.hid (by have := HG.out.l1; omega)
      have HB1 : Hid (Blk (wr.alloc (.cells #[.string ⟨#[]⟩, .string ⟨#[]⟩, .bool ((S[a].toNat : Int) == 1)] 92)) wr.heap.size 92 [.string ⟨#[]⟩, .string ⟨#[]⟩, .bool ((S[a].toNat : Int) == 1)]) := Lib.hid (Blk.new _ _ _)
      obtain ⟨b0, b1, b2, b3, b4, b5⟩ := cells3g HB1.out
      go_wp2_with (first
        | (go_at_call 50; refine (HPC.out q1 HQ1.out HQ2.out _).mono ?_; rintro e w6 ⟨T2, q2, rfl, hw6, hs2, hq3, hq4, hp2⟩; have HP2 := Lib.hid hp2; have HQ3 := Lib.hid hq3; have HQ4 := Lib.hid hq4; have HS2 := Lib.hid hs2; subst hw6; have HB3 : Hid (Blk (wr.alloc (.cells #[.string T1, .string T2, .bool ((S[a].toNat : Int) == 1)] 92)) wr.heap.size 92 [.string T1, .string T2, .bool ((S[a].toNat : Int) == 1)]) := Lib.hid (Blk.new _ _ _); obtain ⟨d0, d1, d2, d3, d4, d5⟩ := cells3g HB3.out; have G3 : Hid (Gb w (wr.alloc (.cells #[.string T1, .string T2, .bool ((S[a].toNat : Int) == 1)] 92)) Wa.heap.size t0 (.slice AV j cV) D) := Lib.hid (HG.out.still ((Turn.refl _ _).alloc _)); obtain ⟨y6, y7⟩ := cells2b G3.out.B6; clear hp2 hs2 hq3 hq4)
        | (go_at_call 50; refine (HPC.out ((a : Int) + 1) (by omega) (by omega) _).mono ?_; rintro e w5 ⟨T1, q1, rfl, hw5, hs1, hq1, hq2, hp1⟩; have HP1 := Lib.hid hp1; have HQ1 := Lib.hid hq1; have HQ2 := Lib.hid hq2; have HS1 := Lib.hid hs1; subst hw5; have HB2 : Hid (Blk (wr.alloc (.cells #[.string T1, .string ⟨#[]⟩, .bool ((S[a].toNat : Int) == 1)] 92)) wr.heap.size 92 [.string T1, .string ⟨#[]⟩, .bool ((S[a].toNat : Int) == 1)]) := Lib.hid (Blk.new _ _ _); obtain ⟨c0, c1x, c2x, c3x, c4x, c5x⟩ := cells3g HB2.out; have G2 : Hid (Gb w (wr.alloc (.cells #[.string T1, .string ⟨#[]⟩, .bool ((S[a].toNat : Int) == 1)] 92)) Wa.heap.size t0 (.slice AV j cV) D) := Lib.hid (HG.out.still ((Turn.refl _ _).alloc _)); clear hp1 hs1 hq1 hq2)
        | (at_builtin; refine wpList_app1c rfl _ _ rfl (Wa.heap.size + 1) (.slice AV j cV) D j (wr.heap.size + 1) ⟨T1, T2, (S[a].toNat : Int) == 1⟩ rfl HDJ.out (G3.out.still ((Turn.refl _ _).alloc (.cells #[.string T1, .string T2, .bool ((S[a].toNat : Int) == 1)] 92))).co rfl (Blk.new_ (wr.alloc (.cells #[.string T1, .string T2, .bool ((S[a].toNat : Int) == 1)] 92)) 92 [.string T1, .string T2, .bool ((S[a].toNat : Int) == 1)] (by simp)) (by omega) (by simp; omega) ?_; intro A9 c9 w9 ho9 ht9; have H9 := Lib.hid ((G3.out.still ((Turn.refl _ _).alloc (.cells #[.string T1, .string T2, .bool ((S[a].toNat : Int) == 1)] 92))).app ho9 ht9); obtain ⟨m0, m1, m2, m3⟩ := cells2g ((G3.out.still ((Turn.refl _ _).alloc (.cells #[.string T1, .string T2, .bool ((S[a].toNat : Int) == 1)] 92))).b6_app ht9); clear ho9 ht9))
      refine ⟨⟨j + 1, q2, A9, c9, D ++ [⟨T1, T2, (S[a].toNat : Int) == 1⟩], rfl, by go_num, by rw [List.length_append, HDJ.out]; rfl, by omega, HQ3.out, HQ4.out, H9, Lib.hid (ny_step hcn HNY.out HLT.out rfl HP1.out HP2.out)⟩, ?_⟩
      simp [intOf]
      omega
    · have HEND : Hid (∀ t C, On15 S.data.toList t C → D = C ∧ 0 ≤ atv) := Lib.hid (fun t C hC => ny_end HNY.out HZ.out (by rw [HDJ.out]; exact hcond) hC)
      have HNM : Hid (∀ m, mok15 m = true → mrk15 m ≠ S.data.toList) := Lib.hid (fun m _ e => by have := mrk_size e; have := HZ.out; omega)
      have hexit : ¬ ((j : Int) < S[9].toNat) ∨ ((j : Int) < S[9].toNat ∧ ¬ 0 ≤ atv) ∨ ((j : Int) < S[9].toNat ∧ 0 ≤ atv ∧ ¬ atv < S.size) := by omega
      clear hcond
      obtain ⟨y0, y1⟩ := cells2b HG.out.B6
      obtain ⟨k0, k1, k2, k3⟩ := cells2g HG.out.A
      have HCX := Lib.hid (HG.out.co.cx (by rw [HDJ.out]; omega))
      have hcx2 : Hid (Cx wr (.slice AV j cV) D) := HCX
      have HCK := Lib.hid (fun W (h : Cx W (.slice AV j cV) D) => refCheck_15 t0 D _ W h (by rw [HDJ.out]; omega))
      obtain ⟨own, err, hoe⟩ : ∃ own err, by15 t0 D = (own, err) := ⟨_, _, rfl⟩
      rw [hoe] at HCK
      have HOE := Lib.hid hoe
      clear hoe hcx2
      by_cases hat : atv < 0
      · have HRS := Lib.hid (res_no (fun t C hC => by have := (HEND.out t C hC).2; omega) HNM.out)
        have GE := HG
        rcases hexit with h1 | ⟨h1, h2⟩ | ⟨h1, h2, h3⟩
        · go_wp2_with fail
          obtain ⟨BZ, TZ⟩ := box2g GE.out.A (.int .i64 0) (.slice none 0 0)
          obtain ⟨r0, r1⟩ := cells2b BZ
          refine bodyPost_ret (v := .tuple #[.agg #[.int .i64 0, (.slice none 0 0)], .int .i64 0, .int .i64 4]) (by simp [results, Try.results13, go_sem, r0, r1]) rfl ⟨0, (.slice none 0 0), [], 0, 4, rfl, (co_nil 0 _).cx (by simp), HRS.out, by simp, GE.out.t.trans_new TZ (fun k hk e => by omega)⟩
        · go_wp2_with fail
          obtain ⟨BZ, TZ⟩ := box2g GE.out.A (.int .i64 0) (.slice none 0 0)
          obtain ⟨r0, r1⟩ := cells2b BZ
          refine bodyPost_ret (v := .tuple #[.agg #[.int .i64 0, (.slice none 0 0)], .int .i64 0, .int .i64 4]) (by simp [results, Try.results13, go_sem, r0, r1]) rfl ⟨0, (.slice none 0 0), [], 0, 4, rfl, (co_nil 0 _).cx (by simp), HRS.out, by simp, GE.out.t.trans_new TZ (fun k hk e => by omega)⟩
        · omega
      · by_cases he : err = 0
        · subst he
          obtain ⟨hrg, hrec⟩ := by_zero HOE.out
          have HPT := Lib.hid (fun W (h : Cx W (.slice AV j cV) D) => refPut_15 t0 D _ W h (rg_small hrg).1 (rg_small hrg).2)
          rw [hrec] at HPT
          have HRG := Lib.hid hrg
          clear hrg hrec
          by_cases hs : own = S
          · have hq : (own.toList == S.toList) = true := by rw [hs]; exact str_same S
            have HRS : Hid (Res15 S t0 D 0 0) := Lib.hid (.inl ⟨rfl, rfl, by rw [HOE.out, hs]⟩)
            clear hs
            rcases hexit with h1 | ⟨h1, h2⟩ | ⟨h1, h2, h3⟩
            · go_wp2_with (first
                | (go_at_call 52; refine (HPT.out _ CX7.out).mono ?_; rintro e w8 ⟨rfl, ht8⟩; have GE := Lib.hid (GE.out.still ht8); obtain ⟨k0, k1, k2, k3⟩ := cells2g GE.out.A; obtain ⟨y0, y1⟩ := cells2b GE.out.B6; clear ht8)
                | (go_at_call 51; refine (HCK.out _ HCX.out).mono ?_; rintro e w7 ⟨rfl, ht7⟩; have GE := Lib.hid (HG.out.still ht7); obtain ⟨k0, k1, k2, k3⟩ := cells2g GE.out.A; obtain ⟨y0, y1⟩ := cells2b GE.out.B6; have CX7 := Lib.hid (HCX.out.still ht7); clear ht7))
              obtain ⟨BZ, TZ⟩ := box2g GE.out.A (.int .i64 t0) (.slice AV j cV)
              obtain ⟨r0, r1⟩ := cells2b BZ
              refine bodyPost_ret (v := .tuple #[.agg #[.int .i64 t0, (.slice AV j cV)], .int .i64 0, .int .i64 0]) (by simp [results, Try.results13, go_sem, r0, r1]) rfl ⟨t0, (.slice AV j cV), D, 0, 0, rfl, GE.out.cxA (by rw [HDJ.out]; omega) TZ, HRS.out, by rw [HDJ.out]; omega, GE.out.t.trans_new TZ (fun k hk e => by omega)⟩
            · omega
            · go_wp2_with (first
                | (go_at_call 52; refine (HPT.out _ CX7.out).mono ?_; rintro e w8 ⟨rfl, ht8⟩; have GE := Lib.hid (GE.out.still ht8); obtain ⟨k0, k1, k2, k3⟩ := cells2g GE.out.A; obtain ⟨y0, y1⟩ := cells2b GE.out.B6; clear ht8)
                | (go_at_call 51; refine (HCK.out _ HCX.out).mono ?_; rintro e w7 ⟨rfl, ht7⟩; have GE := Lib.hid (HG.out.still ht7); obtain ⟨k0, k1, k2, k3⟩ := cells2g GE.out.A; obtain ⟨y0, y1⟩ := cells2b GE.out.B6; have CX7 := Lib.hid (HCX.out.still ht7); clear ht7))
              obtain ⟨BZ, TZ⟩ := box2g GE.out.A (.int .i64 t0) (.slice AV j cV)
              obtain ⟨r0, r1⟩ := cells2b BZ
              refine bodyPost_ret (v := .tuple #[.agg #[.int .i64 t0, (.slice AV j cV)], .int .i64 0, .int .i64 0]) (by simp [results, Try.results13, go_sem, r0, r1]) rfl ⟨t0, (.slice AV j cV), D, 0, 0, rfl, GE.out.cxA (by rw [HDJ.out]; omega) TZ, HRS.out, by rw [HDJ.out]; omega, GE.out.t.trans_new TZ (fun k hk e => by omega)⟩
          · have hq : (own.toList == S.toList) = false := by
              rw [beq_eq_false_iff_ne]
              intro e
              rw [ByteArray.toList_eq, ByteArray.toList_eq] at e
              exact hs (by rw [ba_self own, ba_self S, e])
            have HRS := Lib.hid (res_no (fun t C hC => by
              have h1 := (HEND.out t C hC).1
              have h2 := on_time hC
              rw [← HT0.out] at h2
              subst h1 h2
              have h3 := by_zero HOE.out
              exact hs (by rw [← h3.2, hC.2])) HNM.out)
            clear hs
            rcases hexit with h1 | ⟨h1, h2⟩ | ⟨h1, h2, h3⟩
            · go_wp2_with (first
                | (go_at_call 52; refine (HPT.out _ CX7.out).mono ?_; rintro e w8 ⟨rfl, ht8⟩; have GE := Lib.hid (GE.out.still ht8); obtain ⟨k0, k1, k2, k3⟩ := cells2g GE.out.A; obtain ⟨y0, y1⟩ := cells2b GE.out.B6; clear ht8)
                | (go_at_call 51; refine (HCK.out _ HCX.out).mono ?_; rintro e w7 ⟨rfl, ht7⟩; have GE := Lib.hid (HG.out.still ht7); obtain ⟨k0, k1, k2, k3⟩ := cells2g GE.out.A; obtain ⟨y0, y1⟩ := cells2b GE.out.B6; have CX7 := Lib.hid (HCX.out.still ht7); clear ht7))
              obtain ⟨BZ, TZ⟩ := box2g GE.out.A (.int .i64 0) (.slice none 0 0)
              obtain ⟨r0, r1⟩ := cells2b BZ
              refine bodyPost_ret (v := .tuple #[.agg #[.int .i64 0, (.slice none 0 0)], .int .i64 0, .int .i64 4]) (by simp [results, Try.results13, go_sem, r0, r1]) rfl ⟨0, (.slice none 0 0), [], 0, 4, rfl, (co_nil 0 _).cx (by simp), HRS.out, by simp, GE.out.t.trans_new TZ (fun k hk e => by omega)⟩
            · omega
            · go_wp2_with (first
                | (go_at_call 52; refine (HPT.out _ CX7.out).mono ?_; rintro e w8 ⟨rfl, ht8⟩; have GE := Lib.hid (GE.out.still ht8); obtain ⟨k0, k1, k2, k3⟩ := cells2g GE.out.A; obtain ⟨y0, y1⟩ := cells2b GE.out.B6; clear ht8)
                | (go_at_call 51; refine (HCK.out _ HCX.out).mono ?_; rintro e w7 ⟨rfl, ht7⟩; have GE := Lib.hid (HG.out.still ht7); obtain ⟨k0, k1, k2, k3⟩ := cells2g GE.out.A; obtain ⟨y0, y1⟩ := cells2b GE.out.B6; have CX7 := Lib.hid (HCX.out.still ht7); clear ht7))
              obtain ⟨BZ, TZ⟩ := box2g GE.out.A (.int .i64 0) (.slice none 0 0)
              obtain ⟨r0, r1⟩ := cells2b BZ
              refine bodyPost_ret (v := .tuple #[.agg #[.int .i64 0, (.slice none 0 0)], .int .i64 0, .int .i64 4]) (by simp [results, Try.results13, go_sem, r0, r1]) rfl ⟨0, (.slice none 0 0), [], 0, 4, rfl, (co_nil 0 _).cx (by simp), HRS.out, by simp, GE.out.t.trans_new TZ (fun k hk e => by omega)⟩
        · have hq : (err != 0) = true := by simp [he]
          have HBIG : ∀ t C, by15 t C ≠ (S, 0) := fun t C hb => by
            have hC := (by_on hb).1
            have h1 := (HEND.out t C hC).1
            have h2 := on_time hC
            rw [← HT0.out] at h2
            subst h1 h2
            rw [HOE.out] at hb
            injection hb with _ h4
            exact he h4
          have HRS : Hid (Res15 S 0 [] 0 4) := Lib.hid (.inr (.inr ⟨rfl, rfl, rfl, rfl, HBIG, HNM.out⟩))
          clear he HBIG
          rcases hexit with h1 | ⟨h1, h2⟩ | ⟨h1, h2, h3⟩
          · go_wp2_with (go_at_call 51; refine (HCK.out _ HCX.out).mono ?_; rintro e w7 ⟨rfl, ht7⟩; have GE := Lib.hid (HG.out.still ht7); obtain ⟨k0, k1, k2, k3⟩ := cells2g GE.out.A; obtain ⟨y0, y1⟩ := cells2b GE.out.B6; have CX7 := Lib.hid (HCX.out.still ht7); clear ht7)
            obtain ⟨BZ, TZ⟩ := box2g GE.out.A (.int .i64 0) (.slice none 0 0)
            obtain ⟨r0, r1⟩ := cells2b BZ
            refine bodyPost_ret (v := .tuple #[.agg #[.int .i64 0, (.slice none 0 0)], .int .i64 0, .int .i64 4]) (by simp [results, Try.results13, go_sem, r0, r1]) rfl ⟨0, (.slice none 0 0), [], 0, 4, rfl, (co_nil 0 _).cx (by simp), HRS.out, by simp, GE.out.t.trans_new TZ (fun k hk e => by omega)⟩
          · omega
          · go_wp2_with (go_at_call 51; refine (HCK.out _ HCX.out).mono ?_; rintro e w7 ⟨rfl, ht7⟩; have GE := Lib.hid (HG.out.still ht7); obtain ⟨k0, k1, k2, k3⟩ := cells2g GE.out.A; obtain ⟨y0, y1⟩ := cells2b GE.out.B6; have CX7 := Lib.hid (HCX.out.still ht7); clear ht7)
            obtain ⟨BZ, TZ⟩ := box2g GE.out.A (.int .i64 0) (.slice none 0 0)
            obtain ⟨r0, r1⟩ := cells2b BZ
            refine bodyPost_ret (v := .tuple #[.agg #[.int .i64 0, (.slice none 0 0)], .int .i64 0, .int .i64 4]) (by simp [results, Try.results13, go_sem, r0, r1]) rfl ⟨0, (.slice none 0 0), [], 0, 4, rfl, (co_nil 0 _).cx (by simp), HRS.out, by simp, GE.out.t.trans_new TZ (fun k hk e => by omega)⟩
theorem refRead_15 (S : ByteArray) (hS : S.size ≤ 140737488355000) (w : World) :
    Calls Try.prog 13 #[.string S] w (RPost S w) := by
  by_cases h : ∃ h : 9 < S.size, S[0].toNat = 66
  · obtain ⟨h1, h2⟩ := h
    exact refRead_is S hS h1 h2 w
  · exact refRead_not S hS h w
end Go.Proofs.Ytaebhbdmmnpgeaa
/- Layer 15: Same of batches. -/
namespace Go.Proofs.Ytaebhbdmmnpgeaa
open Go.RowKit Go.Shelf
set_option linter.unusedVariables false
set_option linter.unusedSimpArgs false
set_option maxRecDepth 100000
attribute [local go_sem] Oper.semAt_some

set_option maxHeartbeats 4000000 in
theorem refSameC_w (L : List Cg) (v1 v2 : Value) (w : World) (h1 : Cx w v1 L) (h2 : Cx w v2 L) :
    Calls Try.prog 53 #[v1, v2] w fun e w' => e = .returned (.bool true) ∧ Turn (fun _ => False) w w' := by
  obtain ⟨A1, c1, rfl, hl, hr1⟩ := h1
  obtain ⟨A2, c2, rfl, _, hr2⟩ := h2
  obtain ⟨n, hn⟩ : ∃ n, L.length = n := ⟨_, rfl⟩
  have HN := Lib.hid hn
  have HR1 := Lib.hid hr1
  have HR2 := Lib.hid hr2
  rw [hn] at hl ⊢
  clear hn hr1 hr2
  go_enter Try.func53, Try.ntmps53
  go_wp2_with fail
  go_loopw [5] (fun v5 wr => ∃ i : Nat, i ≤ n ∧ v5 = .int .i64 i ∧ Turn (fun _ => False) w wr) (fun v5 _ => n - (intOf v5).toNat)
  case atStart => exact ⟨0, Nat.zero_le _, rfl, Turn.refl _ _⟩
  case round =>
    obtain ⟨i, hi, rfl, ht⟩ := hrel
    obtain ⟨wx, rfl⟩ : ∃ W, W = wr := ⟨_, rfl⟩
    have TT := Lib.hid ht
    clear ht
    by_cases hlt : i < n
    · have hlb1 : (i : Int) < (n : Int) := by omega
      have hlb0 : (0 : Int) ≤ (i : Int) := by omega
      have hq := wrap_of ((i : Int) + 1) (by omega) (by omega)
      obtain ⟨x, hx⟩ : ∃ x, L[i]? = some x := ⟨_, List.getElem?_eq_getElem (by rw [HN.out]; exact hlt)⟩
      obtain ⟨b1, o1, rfl, hb1, hc1⟩ := HR1.out.chg (by rw [HN.out]; omega)
      obtain ⟨b2, o2, rfl, hb2, hc2⟩ := HR2.out.chg (by rw [HN.out]; omega)
      obtain ⟨c10, c11, c12⟩ := hc1 wx TT.out i x hx
      obtain ⟨c20, c21, c22⟩ := hc2 wx TT.out i x hx
      obtain ⟨xk, xv, xd⟩ := x
      simp only at c10 c11 c12 c20 c21 c22
      have hss : (xk.toList == xk.toList) = true := by simp
      have hsv : (xv.toList == xv.toList) = true := by simp
      clear hx hb1 hb2 hc1 hc2
      go_wp2_with fail
      go_quiet (fail)
      go_wp2_with fail
      go_roundw
      case rel => exact ⟨i + 1, by omega, by simp [hq], by first | exact TT.out.drewN _ | exact TT.out⟩
      case measure => simp [intOf, hq]; omega
    · obtain rfl : i = n := by omega
      go_wp2_with fail
      go_ret
      exact ⟨rfl, TT.out⟩
set_option maxHeartbeats 4000000 in
theorem refSame_15 (t : Int) (L : List Cg) (v1 v2 : Value) (w : World) (h1 : Cx w v1 L) (h2 : Cx w v2 L) :
    Calls Try.prog 14 #[.agg #[.int .i64 t, v1], .agg #[.int .i64 t, v2]] w fun e w' => e = .returned (.bool true) ∧ Turn (fun _ => False) w w' := by
  obtain ⟨W1, hW1⟩ : ∃ W, w.alloc (.cells #[.int .i64 t, v1] 24) = W := ⟨_, rfl⟩
  obtain ⟨W2, hW2⟩ : ∃ W, W1.alloc (.cells #[.int .i64 t, v2] 24) = W := ⟨_, rfl⟩
  have TW : Hid (Turn (fun _ => False) w W2) := Lib.hid (hW2 ▸ (hW1 ▸ (Turn.refl (fun _ => False) w).alloc _ : Turn (fun _ => False) w W1).alloc _)
  have B1 : Hid (Blk W2 w.heap.size 24 [.int .i64 t, v1]) := Lib.hid (hW2 ▸ (show Blk W1 w.heap.size 24 [.int .i64 t, v1] from hW1 ▸ Blk.new _ _ _).alloc _)
  have B2 : Hid (Blk W2 W1.heap.size 24 [.int .i64 t, v2]) := Lib.hid (hW2 ▸ Blk.new _ _ _)
  obtain ⟨x0, x1⟩ := cells2b B1.out
  obtain ⟨y0, y1⟩ := cells2b B2.out
  have HS := Lib.hid (refSameC_w L v1 v2 W2 (h1.still TW.out) (h2.still TW.out))
  go_enter Try.func14, Try.ntmps14
  go_wp2_with (go_at_call 53; refine (HS.out).mono ?_; rintro e w3 ⟨rfl, ht3⟩; have T3 := Lib.hid (TW.out.trans ht3); clear ht3)
  go_ret
  exact ⟨rfl, T3.out⟩
end Go.Proofs.Ytaebhbdmmnpgeaa
