/- Layer 2: Decode, label by label. -/
import Derived.Test.YtcebhoilokmhdaaTupDecA
import Derived.Deep.QuietTactic
import Derived.BigQuiet
import Derived.Lib.AppendStr
namespace Go.Proofs.Ytcebhoilokmhdaa
open Go.RowKit
set_option linter.unusedVariables false

theorem ix_cases (l : List UInt8) : (Lib.indexByte l 0 = -1 ∧ textEnd l = none) ∨ (∃ k : Nat, Lib.indexByte l 0 = k ∧ k < l.length ∧ (k + 1 = l.length → textEnd l = none) ∧
    ∀ d, l[k + 1]? = some d → textEnd l = if d = 1 then some (l.take k, l.drop (k + 2)) else if d = 255 then (textEnd (l.drop (k + 2))).map (fun x => (l.take k ++ 0 :: x.1, x.2)) else none) := by
  induction l with
  | nil => exact .inl ⟨rfl, rfl⟩
  | cons c l ih =>
    by_cases hc : c = 0
    · subst hc
      refine .inr ⟨0, rfl, by simp, fun h => ?_, fun d hd => ?_⟩
      · obtain rfl := List.eq_nil_of_length_eq_zero (l := l) (by simpa using h)
        rfl
      · cases l with
        | nil => cases hd
        | cons e l =>
          cases hd
          rw [textEnd, if_pos rfl]; rfl
    · have hix : Lib.indexByte (c :: l) 0 = if Lib.indexByte l 0 == -1 then -1 else Lib.indexByte l 0 + 1 := by
        show (if c == 0 then 0 else _) = _
        rw [if_neg (by simpa using hc)]
      have htx : textEnd (c :: l) = (textEnd l).map (fun x => (c :: x.1, x.2)) := by
        cases l with
        | nil => rfl
        | cons e l => show (if c = 0 then _ else _) = _; rw [if_neg hc]
      rcases ih with ⟨h1, h2⟩ | ⟨k, h1, h2, h3, h4⟩
      · refine .inl ⟨by rw [hix, h1, if_pos (by decide)], by rw [htx, h2]; rfl⟩
      · refine .inr ⟨k + 1, ?_, by simpa using h2, fun h => ?_, fun d hd => ?_⟩
        · rw [hix, h1, if_neg (by simp)]; omega
        · rw [htx, h3 (by simpa using h)]; rfl
        · rw [htx, h4 d (by simpa using hd)]
          by_cases h5 : d = 1
          · rw [if_pos h5, if_pos h5]; rfl
          · rw [if_neg h5, if_neg h5]
            by_cases h6 : d = 255
            · rw [if_pos h6, if_pos h6, Option.map_map]; rfl
            · rw [if_neg h6, if_neg h6]; rfl

def Fr78 (x : Nat → Value) : Array Value := #[x 0, x 1, x 2, x 3, x 4, x 5, x 6, x 7, x 8, x 9, x 10, x 11, x 12, x 13, x 14, x 15, x 16, x 17, x 18, x 19, x 20, x 21, x 22, x 23, x 24, x 25, x 26, x 27, x 28, x 29, x 30, x 31, x 32, x 33, x 34, x 35, x 36, x 37, x 38, x 39, x 40, x 41, x 42, x 43, x 44, x 45, x 46, x 47, x 48, x 49, x 50, x 51, x 52, x 53, x 54, x 55, x 56, x 57, x 58, x 59, x 60, x 61, x 62, x 63, x 64, x 65, x 66, x 67, x 68, x 69, x 70, x 71, x 72, x 73, x 74, x 75, x 76, x 77]
/-- What holds at a label, besides. -/
def DK (w : World) (L : List UInt8) (l : Nat) (x : Nat → Value) (R : List UInt8) (acc : List Pt) (wr : World) : Prop :=
  (l = 0 ∧ dec L = (dec R).map (acc ++ ·)) ∨
  (l = 1 ∧ ∃ t : List UInt8, wr.ownsRow w.heap.size 5 1 (x 6) t.length (bv t) ∧ t.length + R.length ≤ 128 ∧ dec L = (textEnd R).bind fun y => (dec y.2).map fun z => acc ++ ⟨1, 0, ⟨(t ++ y.1).toArray⟩⟩ :: z) ∨
  (l = 2 ∧ ∃ k : Int, (k = 2 ∨ k = 3) ∧ x 5 = .int .i64 k ∧ dec L = (numEnd k R).bind fun y => (dec y.2).map fun z => acc ++ y.1 :: z) ∨
  (l = 3 ∧ dec L = none)
/-- What holds at a label. -/
def DJ (w : World) (L : List UInt8) (l : Nat) (a : Act) (wr : World) : Prop :=
  ∃ (x : Nat → Value) (R : List UInt8) (acc : List Pt), a = { tmps := Fr78 x, defers := [] } ∧ x 0 = .string ⟨R.toArray⟩ ∧ x 2 = .slice none 0 0 ∧ x 3 = .int .i64 0 ∧ R.length + acc.length ≤ 128 ∧
    wr.ownsRow w.heap.size 88 3 (x 4) acc.length (pcs acc) ∧ Below w.heap.size w wr ∧ DK w L l x R acc wr
def strLen : Value → Nat | .string s => s.size | _ => 0
def dmu (l : Nat) (a : Act) (_ : World) : Nat := if l = 3 then 0 else strLen (a.tmps.getD 0 undef) + 1

/-- What Decode answers. -/
def DPost (w : World) (L : List UInt8) (e : Ending) (w' : World) : Prop :=
  (128 < L.length ∧ e = .returned (.tuple #[.slice none 0 0, .int .i64 5]) ∨ L.length ≤ 128 ∧ dec L = none ∧ e = .returned (.tuple #[.slice none 0 0, .int .i64 4]) ∨
    L.length ≤ 128 ∧ ∃ (v : Value) (ps : List Pt), dec L = some ps ∧ e = .returned (.tuple #[v, .int .i64 0]) ∧ w'.ownsRow w.heap.size 88 3 v ps.length (pcs ps)) ∧ Below w.heap.size w w'
theorem DJ_mk {w : World} {L : List UInt8} {l : Nat} {tm : Array Value} {wr : World} (R : List UInt8) (acc : List Pt)
    (hfr : tm = Fr78 (fun i => tm.getD i undef)) (h0 : tm.getD 0 undef = .string ⟨R.toArray⟩) (h2 : tm.getD 2 undef = .slice none 0 0) (h3 : tm.getD 3 undef = .int .i64 0) (hl : R.length + acc.length ≤ 128)
    (ho : wr.ownsRow w.heap.size 88 3 (tm.getD 4 undef) acc.length (pcs acc)) (hb : Below w.heap.size w wr) (hk : DK w L l (fun i => tm.getD i undef) R acc wr) : DJ w L l { tmps := tm, defers := [] } wr :=
  ⟨_, R, acc, by rw [← hfr], h0, h2, h3, hl, ho, hb, hk⟩
theorem DJ_lt {w : World} {L : List UInt8} {l m : Nat} {tm : Array Value} {wr : World} (R : List UInt8) (acc : List Pt)
    (hfr : tm = Fr78 (fun i => tm.getD i undef)) (h0 : tm.getD 0 undef = .string ⟨R.toArray⟩) (h2 : tm.getD 2 undef = .slice none 0 0) (h3 : tm.getD 3 undef = .int .i64 0) (hl : R.length + acc.length ≤ 128)
    (ho : wr.ownsRow w.heap.size 88 3 (tm.getD 4 undef) acc.length (pcs acc)) (hb : Below w.heap.size w wr) (hk : DK w L l (fun i => tm.getD i undef) R acc wr) (hm : (if l = 3 then 0 else R.length + 1) < m) :
    DJ w L l { tmps := tm, defers := [] } wr ∧ dmu l { tmps := tm, defers := [] } wr < m := by
  refine ⟨DJ_mk R acc hfr h0 h2 h3 hl ho hb hk, ?_⟩
  unfold dmu
  show (if l = 3 then 0 else strLen (tm.getD 0 undef) + 1) < _
  rw [h0]
  have e2 : strLen (.string (⟨R.toArray⟩ : ByteArray)) = R.length := by simp [strLen, ByteArray.size]
  rw [e2]
  exact hm
theorem ba_head (Q : ByteArray) (c : UInt8) (R : List UInt8) (hQ : Q = ⟨(c :: R).toArray⟩) : 0 < Q.size ∧ (∀ h : 0 < Q.size, Q[0] = c) ∧ Q.extract 1 Q.size = ⟨R.toArray⟩ ∧ Q.size = R.length + 1 := by
  subst hQ
  refine ⟨by simp [ByteArray.size], fun _ => rfl, ?_, by simp [ByteArray.size]⟩
  apply ByteArray.ext
  simp [ByteArray.data_extract, ByteArray.size]
theorem byte_eq {c : UInt8} {n : Nat} (hn : n < 256) : (((c.toNat : Int) == n) = true ↔ c = UInt8.ofNat n) := by
  have h := c.toNat_lt
  rw [beq_iff_eq, ← UInt8.toNat_inj, UInt8.toNat_ofNat', Nat.mod_eq_of_lt hn]
  omega
theorem own_turn {w w' : World} {base e size n : Nat} {v : Value} {xs : List Value} {S : Nat → Prop} (h : w.ownsRow base e size v n xs) (ht : Turn S w w') (hne : ∀ k, v.ownBlock = some k → ¬ S k) : w'.ownsRow base e size v n xs := by
  refine ⟨h.1, ?_⟩
  rcases h.2 with hn | ⟨g, cap, cur, rfl, hb, hgg, rest⟩
  · exact .inl hn
  · refine .inr ⟨g, cap, cur, rfl, hb, ?_, rest⟩
    rw [ht.block g (Array.getElem?_eq_some_iff.1 hgg).1 (hne g rfl)]
    exact hgg
theorem own_apart {w : World} {base base' e e' size size' n n' : Nat} {v v' : Value} {xs xs' : List Value} (h : w.ownsRow base e size v n xs) (h' : w.ownsRow base' e' size' v' n' xs') (hne : e ≠ e') : ∀ k, v.ownBlock = some k → ¬ v'.ownBlock = some k := by
  intro k hk hk'
  rcases h.2 with ⟨rfl, _⟩ | ⟨g, cap, cur, rfl, _, hgg, _⟩
  · simp [Value.ownBlock] at hk
  · rcases h'.2 with ⟨rfl, _⟩ | ⟨g', cap', cur', rfl, _, hgg', _⟩
    · simp [Value.ownBlock] at hk'
    · simp [Value.ownBlock] at hk hk'
      subst hk
      subst hk'
      rw [hgg] at hgg'
      injection hgg' with h1
      injection h1 with h1 h2
      exact hne h2

set_option maxRecDepth 100000 in
set_option maxHeartbeats 1000000 in
theorem decode_any (S : ByteArray) (hs : (S.size : Int) ≤ 128) (w : World) :
    Calls Try.prog 40 #[.string S] w (DPost w S.data.toList) := by
  obtain ⟨iP, hi1, hz1, hz2, hz3⟩ := info_parts3 Try.infoPart
  obtain ⟨i0, hi0, hy1, hy2, hy3⟩ := info_parts Try.info5
  have hL : S.data.toList.length ≤ 128 := by rw [len_ba]; omega
  go_enter Try.func40, Try.ntmps40
  go_wp2
  refine wp_scope_many (DJ w S.data.toList) dmu ?_ ?_
  · obtain ⟨R, hR⟩ : ∃ R, S.data.toList = R := ⟨_, rfl⟩
    have HQ := Lib.hid (show S = ⟨R.toArray⟩ from by subst hR; rfl)
    have HK := Lib.hid (show dec S.data.toList = (dec R).map (([] : List Pt) ++ ·) from by rw [hR]; cases dec R <;> rfl)
    have HO := Lib.hid (World.ownsRow_nil w w.heap.size 88 3)
    have hl : R.length + ([] : List Pt).length ≤ 128 := by rw [← hR]; simpa using hL
    have HHL := Lib.hid hL
    clear hR hL
    have hL := HHL.out
    clear HHL
    go_wp2
    go_step3
    cases R with
    | nil =>
      have hq : S.toList.isEmpty = true := by rw [HQ.out]; exact str_is_empty rfl
      go_wp2
      simp only [jumps]
      go_ret2
      refine ⟨.inr (.inr ⟨hL, Value.slice none 0 0, ([] : List Pt), by rw [HK.out, dec_nil]; simp, rfl, HO.out⟩), Below.refl _ _⟩
    | cons c R =>
      obtain ⟨b1, b2, b3, b4⟩ := ba_head S c R HQ.out
      have hq : S.toList.isEmpty = false := str_not_empty (by omega)
      have hi : (0 : Int) < S.size := by omega
      have hi1 : (1 : Int) ≤ S.size := by omega
      have hc := b2 b1
      have HE := Lib.hid b3
      simp only [List.length_cons] at hl
      have hkd := HK.out
      rw [dec_cons] at hkd
      have H4 := Lib.hid b4
      clear b2 b3 b4
      have hcase : (c = 2 ∧ ((S[0].toNat : Int) == 2) = true) ∨ (c = 3 ∧ ((S[0].toNat : Int) == 2) = false ∧ ((S[0].toNat : Int) == 3) = true) ∨ (c = 4 ∧ ((S[0].toNat : Int) == 2) = false ∧ ((S[0].toNat : Int) == 3) = false ∧ ((S[0].toNat : Int) == 4) = true) ∨ (firstPart c R = none ∧ ((S[0].toNat : Int) == 2) = false ∧ ((S[0].toNat : Int) == 3) = false ∧ ((S[0].toNat : Int) == 4) = false) := by
        rw [hc]
        by_cases c2 : c = 2
        · subst c2; exact .inl ⟨rfl, rfl⟩
        · have e2 : ((c.toNat : Int) == 2) = false := by cases h : ((c.toNat : Int) == 2) with | false => rfl | true => exact absurd ((byte_eq (n := 2) (by decide)).1 h) c2
          by_cases c3 : c = 3
          · subst c3; exact .inr (.inl ⟨rfl, rfl, rfl⟩)
          · have e3 : ((c.toNat : Int) == 3) = false := by cases h : ((c.toNat : Int) == 3) with | false => rfl | true => exact absurd ((byte_eq (n := 3) (by decide)).1 h) c3
            by_cases c4 : c = 4
            · subst c4; exact .inr (.inr (.inl ⟨rfl, rfl, rfl, rfl⟩))
            · have e4 : ((c.toNat : Int) == 4) = false := by cases h : ((c.toNat : Int) == 4) with | false => rfl | true => exact absurd ((byte_eq (n := 4) (by decide)).1 h) c4
              exact .inr (.inr (.inr ⟨by unfold firstPart; rw [if_neg c2, if_neg c3, if_neg c4], e2, e3, e4⟩))
      clear hc
      rcases hcase with ⟨rfl, g2⟩ | ⟨rfl, g2, g3⟩ | ⟨rfl, g2, g3, g4⟩ | ⟨hf, g2, g3, g4⟩
      · have HF := Lib.hid (show dec S.data.toList = (textEnd R).bind fun y => (dec y.2).map fun z => ([] : List Pt) ++ ⟨1, 0, ⟨(([] : List UInt8) ++ y.1).toArray⟩⟩ :: z from by
          rw [hkd]; unfold firstPart; rw [if_pos rfl]; cases textEnd R with
          | none => rfl
          | some y => show ((dec y.2).map _).map _ = _; rw [Option.map_map]; rfl)
        clear hkd
        go_wp2
        go_quiet (fail)
        go_wp2
        try go_step3
        show DJ w S.data.toList 1 _ _
        refine DJ_mk R ([] : List Pt) rfl (congrArg Value.string HE.out) rfl rfl (by omega) HO.out (bdrewN (Below.refl _ _)) (.inr (.inl ⟨rfl, [], World.ownsRow_nil _ _ _ _, by simp; omega, HF.out⟩))
      · have HF := Lib.hid (show dec S.data.toList = (numEnd 2 R).bind fun y => (dec y.2).map fun z => ([] : List Pt) ++ y.1 :: z from by
          rw [hkd]; unfold firstPart; rw [if_neg (by decide), if_pos rfl]; cases numEnd 2 R with
          | none => rfl
          | some y => show ((dec y.2).map _).map _ = _; rw [Option.map_map]; rfl)
        clear hkd
        go_wp2
        go_quiet (fail)
        go_wp2
        try go_step3
        show DJ w S.data.toList 2 _ _
        refine DJ_mk R ([] : List Pt) rfl (congrArg Value.string HE.out) rfl rfl (by omega) HO.out (bdrewN (Below.refl _ _)) (.inr (.inr (.inl ⟨rfl, 2, .inl rfl, rfl, HF.out⟩)))
      · have HF := Lib.hid (show dec S.data.toList = (numEnd 3 R).bind fun y => (dec y.2).map fun z => ([] : List Pt) ++ y.1 :: z from by
          rw [hkd]; unfold firstPart; rw [if_neg (by decide), if_neg (by decide), if_pos rfl]; cases numEnd 3 R with
          | none => rfl
          | some y => show ((dec y.2).map _).map _ = _; rw [Option.map_map]; rfl)
        clear hkd
        go_wp2
        go_quiet (fail)
        go_wp2
        try go_step3
        show DJ w S.data.toList 2 _ _
        refine DJ_mk R ([] : List Pt) rfl (congrArg Value.string HE.out) rfl rfl (by omega) HO.out (bdrewN (Below.refl _ _)) (.inr (.inr (.inl ⟨rfl, 3, .inr rfl, rfl, HF.out⟩)))
      · have HF := Lib.hid (show dec S.data.toList = none from by rw [hkd, hf]; rfl)
        clear hkd hf
        go_wp2
        go_quiet (fail)
        go_wp2
        try go_step3
        show DJ w S.data.toList 3 _ _
        refine DJ_mk R ([] : List Pt) rfl (congrArg Value.string HE.out) rfl rfl (by omega) HO.out (bdrewN (Below.refl _ _)) (.inr (.inr (.inr ⟨rfl, HF.out⟩)))
  · rintro l a wr ⟨x, R, acc, rfl, h0, h2, h3, hl, ho, hb, hk⟩
    rcases hk with ⟨rfl, hk⟩ | ⟨rfl, t, hot, htl, hk⟩ | ⟨rfl, k, hkk, h5, hk⟩ | ⟨rfl, hk⟩
    · refine ⟨_, rfl, ?_⟩
      obtain ⟨Q, hQ⟩ : ∃ Q : ByteArray, Q = ⟨R.toArray⟩ := ⟨_, rfl⟩
      obtain ⟨LV, hLV⟩ : ∃ v, x 4 = v := ⟨_, rfl⟩
      rw [← hQ] at h0
      rw [hLV] at ho
      have HQ := Lib.hid hQ
      have HO := Lib.hid ho
      have HK := Lib.hid hk
      generalize hM : dmu 0 { tmps := Fr78 x, defers := [] } wr = M
      have HM := Lib.hid (show M = R.length + 1 from by rw [← hM]; show strLen (x 0) + 1 = _; rw [h0, hQ]; simp [strLen, ByteArray.size])
      clear hM
      simp only [Fr78, h0, h2, h3, hLV]
      clear hQ ho hk h0 h2 h3 hLV
      cases R with
      | nil =>
        have hq : Q.toList.isEmpty = true := by rw [HQ.out]; exact str_is_empty rfl
        go_wp2
        simp only [jumps]
        go_ret2
        refine ⟨.inr (.inr ⟨hL, LV, acc, by rw [HK.out, dec_nil]; simp, rfl, HO.out⟩), hb⟩
      | cons c R =>
        obtain ⟨b1, b2, b3, b4⟩ := ba_head Q c R HQ.out
        have hq : Q.toList.isEmpty = false := str_not_empty (by omega)
        have hi : (0 : Int) < Q.size := by omega
        have hi1 : (1 : Int) ≤ Q.size := by omega
        have hc := b2 b1
        have HE := Lib.hid b3
        simp only [List.length_cons] at hl
        have hkd := HK.out
        rw [dec_cons] at hkd
        have H4 := Lib.hid b4
        clear b2 b3 b4
        have hcase : (c = 2 ∧ ((Q[0].toNat : Int) == 2) = true) ∨ (c = 3 ∧ ((Q[0].toNat : Int) == 2) = false ∧ ((Q[0].toNat : Int) == 3) = true) ∨ (c = 4 ∧ ((Q[0].toNat : Int) == 2) = false ∧ ((Q[0].toNat : Int) == 3) = false ∧ ((Q[0].toNat : Int) == 4) = true) ∨ (firstPart c R = none ∧ ((Q[0].toNat : Int) == 2) = false ∧ ((Q[0].toNat : Int) == 3) = false ∧ ((Q[0].toNat : Int) == 4) = false) := by
          rw [hc]
          by_cases c2 : c = 2
          · subst c2; exact .inl ⟨rfl, rfl⟩
          · have e2 : ((c.toNat : Int) == 2) = false := by cases h : ((c.toNat : Int) == 2) with | false => rfl | true => exact absurd ((byte_eq (n := 2) (by decide)).1 h) c2
            by_cases c3 : c = 3
            · subst c3; exact .inr (.inl ⟨rfl, rfl, rfl⟩)
            · have e3 : ((c.toNat : Int) == 3) = false := by cases h : ((c.toNat : Int) == 3) with | false => rfl | true => exact absurd ((byte_eq (n := 3) (by decide)).1 h) c3
              by_cases c4 : c = 4
              · subst c4; exact .inr (.inr (.inl ⟨rfl, rfl, rfl, rfl⟩))
              · have e4 : ((c.toNat : Int) == 4) = false := by cases h : ((c.toNat : Int) == 4) with | false => rfl | true => exact absurd ((byte_eq (n := 4) (by decide)).1 h) c4
                exact .inr (.inr (.inr ⟨by unfold firstPart; rw [if_neg c2, if_neg c3, if_neg c4], e2, e3, e4⟩))
        clear hc
        rcases hcase with ⟨rfl, g2⟩ | ⟨rfl, g2, g3⟩ | ⟨rfl, g2, g3, g4⟩ | ⟨hf, g2, g3, g4⟩
        · have HF := Lib.hid (show dec S.data.toList = (textEnd R).bind fun y => (dec y.2).map fun z => acc ++ ⟨1, 0, ⟨(([] : List UInt8) ++ y.1).toArray⟩⟩ :: z from by
            rw [hkd]; unfold firstPart; rw [if_pos rfl]; cases textEnd R with
            | none => rfl
            | some y => show ((dec y.2).map _).map _ = _; rw [Option.map_map]; rfl)
          clear hkd
          go_wp2
          go_quiet (fail)
          go_wp2
          try go_step3
          show DJ w S.data.toList 1 _ _ ∧ dmu 1 _ _ < _
          refine DJ_lt R acc rfl (congrArg Value.string HE.out) rfl rfl (by omega) HO.out (bdrewN hb) (.inr (.inl ⟨rfl, [], World.ownsRow_nil _ _ _ _, by simp; omega, HF.out⟩)) (by rw [HM.out]; simp)
        · have HF := Lib.hid (show dec S.data.toList = (numEnd 2 R).bind fun y => (dec y.2).map fun z => acc ++ y.1 :: z from by
            rw [hkd]; unfold firstPart; rw [if_neg (by decide), if_pos rfl]; cases numEnd 2 R with
            | none => rfl
            | some y => show ((dec y.2).map _).map _ = _; rw [Option.map_map]; rfl)
          clear hkd
          go_wp2
          go_quiet (fail)
          go_wp2
          try go_step3
          show DJ w S.data.toList 2 _ _ ∧ dmu 2 _ _ < _
          refine DJ_lt R acc rfl (congrArg Value.string HE.out) rfl rfl (by omega) HO.out (bdrewN hb) (.inr (.inr (.inl ⟨rfl, 2, .inl rfl, rfl, HF.out⟩))) (by rw [HM.out]; simp)
        · have HF := Lib.hid (show dec S.data.toList = (numEnd 3 R).bind fun y => (dec y.2).map fun z => acc ++ y.1 :: z from by
            rw [hkd]; unfold firstPart; rw [if_neg (by decide), if_neg (by decide), if_pos rfl]; cases numEnd 3 R with
            | none => rfl
            | some y => show ((dec y.2).map _).map _ = _; rw [Option.map_map]; rfl)
          clear hkd
          go_wp2
          go_quiet (fail)
          go_wp2
          try go_step3
          show DJ w S.data.toList 2 _ _ ∧ dmu 2 _ _ < _
          refine DJ_lt R acc rfl (congrArg Value.string HE.out) rfl rfl (by omega) HO.out (bdrewN hb) (.inr (.inr (.inl ⟨rfl, 3, .inr rfl, rfl, HF.out⟩))) (by rw [HM.out]; simp)
        · have HF := Lib.hid (show dec S.data.toList = none from by rw [hkd, hf]; rfl)
          clear hkd hf
          go_wp2
          go_quiet (fail)
          go_wp2
          try go_step3
          show DJ w S.data.toList 3 _ _ ∧ dmu 3 _ _ < _
          refine DJ_lt R acc rfl (congrArg Value.string HE.out) rfl rfl (by omega) HO.out (bdrewN hb) (.inr (.inr (.inr ⟨rfl, HF.out⟩))) (by rw [HM.out]; simp)
    · refine ⟨_, rfl, ?_⟩
      obtain ⟨Q, hQ⟩ : ∃ Q : ByteArray, Q = ⟨R.toArray⟩ := ⟨_, rfl⟩
      obtain ⟨LV, hLV⟩ : ∃ v, x 4 = v := ⟨_, rfl⟩
      obtain ⟨TV, hTV⟩ : ∃ v, x 6 = v := ⟨_, rfl⟩
      rw [← hQ] at h0
      rw [hLV] at ho
      rw [hTV] at hot
      have hqs : Q.size = R.length := by rw [hQ]; simp [ByteArray.size]
      have hql : Q.data.toList = R := by rw [hQ]
      have HQ := Lib.hid hQ
      have HO := Lib.hid ho
      have HT := Lib.hid hot
      generalize hM : dmu 1 { tmps := Fr78 x, defers := [] } wr = M
      have HM := Lib.hid (show M = R.length + 1 from by rw [← hM]; show strLen (x 0) + 1 = _; rw [h0, hQ]; simp [strLen, ByteArray.size])
      clear hM
      simp only [Fr78, h0, h2, h3, hLV, hTV]
      clear hQ ho hot h0 h2 h3 hLV hTV
      have hix : ∀ i, Lib.indexByte R 0 = i → Lib.indexByte Q.data.toList ((0 : Int).toNat.toUInt8) = i := fun i h => by rw [hql]; exact h
      rcases ix_cases R with ⟨e1, e2⟩ | ⟨k, e1, e2, e3, e4⟩
      · have HIX := Lib.hid (hix _ e1)
        have HF := Lib.hid (show dec S.data.toList = none from by rw [hk, e2]; rfl)
        clear hix e1 e2 hk hql hqs
        go_wp2_with (go_at_call 70; refine (Try.strings_IndexByte Q 0 _).mono ?_; rintro e w' ⟨rfl, rfl⟩; rw [HIX.out])
        try go_step3
        show DJ w S.data.toList 3 _ _ ∧ dmu 3 _ _ < _
        refine DJ_lt R acc rfl (congrArg Value.string HQ.out) rfl rfl (by omega) HO.out hb (.inr (.inr (.inr ⟨rfl, HF.out⟩))) (by rw [HM.out]; simp)
      · have HIX := Lib.hid (hix _ e1)
        by_cases hke : k + 1 = R.length
        · have HF := Lib.hid (show dec S.data.toList = none from by rw [hk, e3 hke]; rfl)
          have hq : ((k : Int) + 1 == Q.size) = true := by simp; omega
          have i0' : (0 : Int) ≤ k := by omega
          have i1' : (k : Int) ≤ 200 := by omega
          have i2' : (k : Int) ≤ Q.size := by omega
          clear hix e1 e2 e3 e4 hk hql hqs hke
          go_wp2_with (go_at_call 70; refine (Try.strings_IndexByte Q 0 _).mono ?_; rintro e w' ⟨rfl, rfl⟩; rw [HIX.out])
          try go_step3
          show DJ w S.data.toList 3 _ _ ∧ dmu 3 _ _ < _
          refine DJ_lt R acc rfl (congrArg Value.string HQ.out) rfl rfl (by omega) HO.out hb (.inr (.inr (.inr ⟨rfl, HF.out⟩))) (by rw [HM.out]; simp)
        · have hkl : k + 1 < R.length := by omega
          obtain ⟨d, hd⟩ : ∃ d, R[k + 1]? = some d := ⟨_, List.getElem?_eq_getElem hkl⟩
          have hT := e4 d hd
          rw [hT] at hk
          have hq : ((k : Int) + 1 == Q.size) = false := by simp; omega
          have i0' : (0 : Int) ≤ k := by omega
          have i1 : (k : Int) ≤ Q.size := by omega
          have i2 : (0 : Int) ≤ (k : Int) + 1 := by omega
          have i3 : (k : Int) + 1 < Q.size := by omega
          have i4 : (0 : Int) ≤ (k : Int) + 2 := by omega
          have i5 : (k : Int) + 2 ≤ Q.size := by omega
          have n1 : ((k : Int) + 1).toNat = k + 1 := by omega
          have n2 : ((k : Int) + 2).toNat = k + 2 := by omega
          have HX1 := Lib.hid (show (Q.extract 0 k).data.toList = R.take k from by rw [ByteArray.data_extract]; simp [hql])
          have hx1 : (Q.extract 0 k).size = k := by rw [ByteArray.size_extract]; omega
          have HX2 := Lib.hid (show Q.extract (k + 2) Q.size = ⟨(R.drop (k + 2)).toArray⟩ from by rw [HQ.out]; apply ByteArray.ext; simp [ByteArray.data_extract, ByteArray.size]; exact List.take_of_length_le (by rw [List.length_drop]; omega))
          have HX3 := Lib.hid (show ∀ h : k + 1 < Q.size, Q[k + 1] = d from fun h => by
            obtain ⟨h1, h2⟩ := List.getElem?_eq_some_iff.1 hd
            have := HQ.out; subst this; exact h2)
          have hz := hb.size
          have hQd : ∀ h : k + 1 < Q.size, Q[k + 1] = d := HX3.out
          have hh : k + 1 < Q.size := by omega
          have hcase : (d = 255 ∧ ((Q[k + 1].toNat : Int) == 255) = true) ∨ (d = 1 ∧ ((Q[k + 1].toNat : Int) == 255) = false ∧ ((Q[k + 1].toNat : Int) == 1) = true) ∨ (((Q[k + 1].toNat : Int) == 255) = false ∧ ((Q[k + 1].toNat : Int) == 1) = false ∧ dec S.data.toList = none) := by
            rw [hQd hh]
            by_cases d1 : d = 255
            · subst d1; exact .inl ⟨rfl, rfl⟩
            · have f1 : ((d.toNat : Int) == 255) = false := by cases h : ((d.toNat : Int) == 255) with | false => rfl | true => exact absurd ((byte_eq (n := 255) (by decide)).1 h) d1
              by_cases d2 : d = 1
              · subst d2; exact .inr (.inl ⟨rfl, rfl, rfl⟩)
              · have f2 : ((d.toNat : Int) == 1) = false := by cases h : ((d.toNat : Int) == 1) with | false => rfl | true => exact absurd ((byte_eq (n := 1) (by decide)).1 h) d2
                exact .inr (.inr ⟨f1, f2, by rw [hk, if_neg d2, if_neg d1]; rfl⟩)
          have HK := Lib.hid hk
          have hk128 : k + 2 ≤ 128 := by omega
          have ht128 : t.length ≤ 128 := by omega
          have HX1S := Lib.hid hx1
          have HSZ := Lib.hid (show t.length + k + (R.drop (k + 2)).length + 1 ≤ 128 ∧ (R.drop (k + 2)).length + acc.length + 1 ≤ 128 ∧ (R.drop (k + 2)).length + 1 < M from by rw [HM.out, List.length_drop]; omega)
          clear hix e1 e2 e3 e4 hk hql hT hd hQd HX3 hqs hkl hke hx1
          rcases hcase with ⟨rfl, f1⟩ | ⟨rfl, f1, f2⟩ | ⟨f1, f2, hf⟩
          · have HF := Lib.hid (show dec S.data.toList = (textEnd (R.drop (k + 2))).bind fun y => (dec y.2).map fun z => acc ++ ⟨1, 0, ⟨((t ++ R.take k ++ [0]) ++ y.1).toArray⟩⟩ :: z from by rw [HK.out, if_neg (by decide), if_pos rfl]; cases textEnd (R.drop (k + 2)) with | none => rfl | some y => simp)
            clear HK
            go_wp2_with (first
              | (go_at_call 70; refine (Try.strings_IndexByte Q 0 _).mono ?_; rintro e w' ⟨rfl, rfl⟩; rw [HIX.out])
              | (at_builtin; refine Lib.wpList_append_own_string _ rfl _ _ 22 9 rfl w.heap.size 5 i0 Try.underlying22 Try.underlying9 hi0 hy1 hy2 hy3 _ _ _ rfl HT.out (Q.extract 0 k) rfl (by rw [HX1S.out]; unfold maxLen; omega) (by rw [HX1S.out]; omega) hz ?_; intro v2 w2 ho2 hg2 _))
            have hbg : Below w.heap.size w w2 := hb.trans (grown_below hg2 HT.out hz)
            have HO2 := Lib.hid (own_turn HO.out (turn_grown hg2) (own_apart HO.out HT.out (by decide)))
            have HT2 := Lib.hid (show w2.ownsRow w.heap.size 5 1 v2 (t ++ R.take k).length (bv (t ++ R.take k)) from by
              rw [List.length_append, bv_app]
              have e : (R.take k).length = (Q.extract 0 k).size := by rw [← HX1.out, len_ba]
              rw [e]
              have e2 : bv (R.take k) = Lib.strCells (Q.extract 0 k) := by rw [← HX1.out]; rfl
              rw [e2]; exact ho2)
            clear ho2 hg2
            go_quiet (fail)
            go_wp2_with (at_builtin; refine wpList_push rfl _ _ 22 rfl w.heap.size 5 i0 Try.underlying22 hi0 hy1 hy2 hy3 _ (t ++ R.take k) rfl (World.ownsRow.alloc (w := w2.drewN _) HT2.out _) _ 1 [0] rfl rfl (by decide) 5 (Blk.new_ _ _ _ (by rfl)) (by rw [List.length_append, List.length_take]; omega) (by have := hbg.size; show _ ≤ ((w2.drewN _).alloc _).heap.size; simp; exact Nat.le_succ_of_le this) ?_; intro v3 w3 ho3 ht3; have HT3 := Lib.hid ho3; have HTU := Lib.hid ht3; clear ho3 ht3)
            have hb3 : Below w.heap.size w w3 := ((bdrewN hbg).alloc hbg.size _).trans (HTU.out.below (by have := hbg.size; show _ ≤ ((w2.drewN _).alloc _).heap.size; simp; exact Nat.le_succ_of_le this) fun j hj => (HT2.out.lt j hj).1)
            have HO3 := Lib.hid (own_turn (World.ownsRow.alloc (w := w2.drewN _) HO2.out _) HTU.out (own_apart HO2.out HT2.out (by decide)))
            try go_step3
            show DJ w S.data.toList 1 _ _ ∧ dmu 1 _ _ < _
            refine DJ_lt (R.drop (k + 2)) acc rfl (congrArg Value.string HX2.out) rfl rfl (by have := HSZ.out; omega) HO3.out hb3 (.inr (.inl ⟨rfl, t ++ R.take k ++ [0], HT3.out, by have := HSZ.out; simp only [List.length_append, List.length_take, List.length_singleton]; omega, HF.out⟩)) (by rw [if_neg (by decide)]; exact HSZ.out.2.2)
          · have HF := Lib.hid (show dec S.data.toList = (dec (R.drop (k + 2))).map ((acc ++ [⟨1, 0, ⟨(t ++ R.take k).toArray⟩⟩]) ++ ·) from by rw [HK.out, if_pos rfl]; show (dec (R.drop (k + 2))).map _ = _; congr 1; funext z; simp)
            clear HK
            go_wp2_with (first
              | (go_at_call 70; refine (Try.strings_IndexByte Q 0 _).mono ?_; rintro e w' ⟨rfl, rfl⟩; rw [HIX.out])
              | (at_builtin; refine Lib.wpList_append_own_string _ rfl _ _ 22 9 rfl w.heap.size 5 i0 Try.underlying22 Try.underlying9 hi0 hy1 hy2 hy3 _ _ _ rfl HT.out (Q.extract 0 k) rfl (by rw [HX1S.out]; unfold maxLen; omega) (by rw [HX1S.out]; omega) hz ?_; intro v2 w2 ho2 hg2 _))
            have hbg : Below w.heap.size w w2 := hb.trans (grown_below hg2 HT.out hz)
            have HO2 := Lib.hid (own_turn HO.out (turn_grown hg2) (own_apart HO.out HT.out (by decide)))
            have HT2 := Lib.hid (show w2.ownsRow w.heap.size 5 1 v2 (t ++ R.take k).length (bv (t ++ R.take k)) from by
              rw [List.length_append, bv_app]
              have e : (R.take k).length = (Q.extract 0 k).size := by rw [← HX1.out, len_ba]
              rw [e]
              have e2 : bv (R.take k) = Lib.strCells (Q.extract 0 k) := by rw [← HX1.out]; rfl
              rw [e2]; exact ho2)
            clear ho2 hg2
            obtain ⟨A2, c2, rfl, hcv⟩ := made_str _ HT2.out
            have hcvn : ∀ n, (convert 22 9 (.slice A2 (t ++ R.take k).length c2)).run Try.prog (w2.drewN n) = .ok (.string ⟨(t ++ R.take k).toArray⟩) (w2.drewN n) := fun n => by
              obtain ⟨A3, c3, e3, hcv3⟩ := made_str (w := w2.drewN n) (B := w.heap.size) (t ++ R.take k) HT2.out
              injection e3 with e31 e32 e33
              subst e31 e33
              exact hcv3
            clear hcv
            obtain ⟨tl, htl2⟩ : ∃ n, (t ++ R.take k).length = n := ⟨_, rfl⟩
            have HTL := Lib.hid htl2
            rw [htl2] at hcvn
            have htl3 : tl ≤ 200 := by rw [← htl2, List.length_append, List.length_take]; omega
            obtain ⟨TX, hTX⟩ : ∃ TX : ByteArray, TX = ⟨(t ++ R.take k).toArray⟩ := ⟨_, rfl⟩
            rw [← hTX] at hcvn
            have HTX := Lib.hid hTX
            have HFI := Lib.hid (show fine [(⟨1, 0, TX⟩ : Pt)] from ⟨by simp; rw [hTX]; simp [ByteArray.size] at htl2 ⊢; omega, by simp⟩)
            clear hTX
            simp only [htl2]
            clear htl2
            go_quiet (fail)
            go_wp2_with (at_builtin; refine wpList_app_parts rfl _ _ 54 rfl w.heap.size (w2.heap.size + 1) 88 iP Try.underlying54 hi1 hz1 hz2 hz3 LV _ acc [⟨1, 0, TX⟩] rfl rfl (World.ownsRow.alloc (w := w2.drewN _) HO2.out _) (parts_blk (w := (w2.drewN _).alloc _) (t := 88) (Blk.new_ _ _ _ (by rfl)) (by simp) HFI.out (Nat.le_refl _)) (by simp; omega) (by have := hbg.size; show _ ≤ ((w2.drewN _).alloc _).heap.size; simp; exact Nat.le_succ_of_le this) ?_; intro v3 w3 ho3 ht3; have HO3 := Lib.hid ho3; have HTU := Lib.hid ht3; clear ho3 ht3)
            have hb3 : Below w.heap.size w w3 := ((bdrewN hbg).alloc hbg.size _).trans (HTU.out.below (by have := hbg.size; show _ ≤ ((w2.drewN _).alloc _).heap.size; simp; exact Nat.le_succ_of_le this) fun j hj => (HO2.out.lt j hj).1)
            rw [HTX.out] at HO3
            try go_step3
            show DJ w S.data.toList 0 _ _ ∧ dmu 0 _ _ < _
            refine DJ_lt (R.drop (k + 2)) (acc ++ [(⟨1, 0, ⟨(t ++ R.take k).toArray⟩⟩ : Pt)]) rfl (congrArg Value.string HX2.out) rfl rfl (by have := HSZ.out; simp only [List.length_append, List.length_singleton]; omega) HO3.out hb3 (.inl ⟨rfl, HF.out⟩) (by rw [if_neg (by decide)]; exact HSZ.out.2.2)
          · have HF := Lib.hid hf
            clear HK hf
            go_wp2_with (first
              | (go_at_call 70; refine (Try.strings_IndexByte Q 0 _).mono ?_; rintro e w' ⟨rfl, rfl⟩; rw [HIX.out])
              | (at_builtin; refine Lib.wpList_append_own_string _ rfl _ _ 22 9 rfl w.heap.size 5 i0 Try.underlying22 Try.underlying9 hi0 hy1 hy2 hy3 _ _ _ rfl HT.out (Q.extract 0 k) rfl (by rw [HX1S.out]; unfold maxLen; omega) (by rw [HX1S.out]; omega) hz ?_; intro v2 w2 ho2 hg2 _))
            have hbg : Below w.heap.size w w2 := hb.trans (grown_below hg2 HT.out hz)
            have HO2 := Lib.hid (own_turn HO.out (turn_grown hg2) (own_apart HO.out HT.out (by decide)))
            clear ho2 hg2
            go_quiet (fail)
            go_wp2
            try go_step3
            show DJ w S.data.toList 3 _ _ ∧ dmu 3 _ _ < _
            refine DJ_lt (R.drop (k + 2)) acc rfl (congrArg Value.string HX2.out) rfl rfl (by have := HSZ.out; omega) HO2.out (bdrewN hbg) (.inr (.inr (.inr ⟨rfl, HF.out⟩))) (by rw [if_pos rfl]; have := HSZ.out; omega)
    · refine ⟨_, rfl, ?_⟩
      obtain ⟨Q, hQ⟩ : ∃ Q : ByteArray, Q = ⟨R.toArray⟩ := ⟨_, rfl⟩
      obtain ⟨LV, hLV⟩ : ∃ v, x 4 = v := ⟨_, rfl⟩
      rw [← hQ] at h0
      rw [hLV] at ho
      have hqs : Q.size = R.length := by rw [hQ]; simp [ByteArray.size]
      have HQ := Lib.hid hQ
      have HO := Lib.hid ho
      generalize hM : dmu 2 { tmps := Fr78 x, defers := [] } wr = M
      have HM := Lib.hid (show M = R.length + 1 from by rw [← hM]; show strLen (x 0) + 1 = _; rw [h0, hQ]; simp [strLen, ByteArray.size])
      clear hM
      simp only [Fr78, h0, h2, h3, h5, hLV]
      clear hQ ho h0 h2 h3 h5 hLV
      by_cases hl8 : R.length < 8
      · have HF := Lib.hid (show dec S.data.toList = none from by rw [hk]; unfold numEnd; rw [if_pos hl8]; rfl)
        have h8 : (Q.size : Int) < 8 := by omega
        clear hk hqs hl8
        go_wp2
        try go_step3
        show DJ w S.data.toList 3 _ _ ∧ dmu 3 _ _ < _
        refine DJ_lt R acc rfl (congrArg Value.string HQ.out) rfl rfl (by omega) HO.out hb (.inr (.inr (.inr ⟨rfl, HF.out⟩))) (by rw [HM.out]; simp)
      · have h8 : ¬ (Q.size : Int) < 8 := by omega
        have h8' : (8 : Int) ≤ Q.size := by omega
        have HR := Lib.hid (show 8 ≤ R.length from by omega)
        have hk' : dec S.data.toList = (dec (R.drop 8)).map ((acc ++ [⟨k, pn k (num 8 R 0), ⟨#[]⟩⟩]) ++ ·) := by
          rw [hk]; unfold numEnd; rw [if_neg hl8]
          show (dec (R.drop 8)).map _ = _
          congr 1; funext z; simp
        have HF := Lib.hid hk'
        have HX := Lib.hid (show Q.extract 8 Q.size = ⟨(R.drop 8).toArray⟩ from by rw [HQ.out]; apply ByteArray.ext; simp [ByteArray.data_extract, ByteArray.size]; exact List.take_of_length_le (by rw [List.length_drop]; omega))
        have hu0 : (0 : Int) ≤ num 8 R 0 := by omega
        have hu1 := num8_lt R
        obtain ⟨N, hN⟩ : ∃ N, pn k (num 8 R 0) = N := ⟨_, rfl⟩
        have hNr : -9223372036854775808 ≤ N ∧ N ≤ 9223372036854775807 := by rw [← hN]; unfold pn; split <;> omega
        have HTB := Lib.hid (fun W => turn_back k (num 8 R 0) hu0 hu1 W)
        have HN := Lib.hid (show (if k = 3 then 9223372036854775807 - (num 8 R 0 : Int) else (num 8 R 0 : Int) - 9223372036854775808) = N from hN)
        rw [hN] at HF
        have HFI := Lib.hid (show fine [(⟨k, N, ⟨#[]⟩⟩ : Pt)] from ⟨by intro p hp; obtain rfl : p = _ := List.mem_singleton.1 hp; exact ⟨by show (0 : Nat) ≤ _; omega, hNr⟩, by simp⟩)
        have HSZ := Lib.hid (show (R.drop 8).length + acc.length + 1 ≤ 128 ∧ (R.drop 8).length + 1 < M from by rw [HM.out, List.length_drop]; omega)
        have hz := hb.size
        clear hk hk' hqs hl8 hu0 hu1 hN hNr
        go_wp2_with (first
          | (go_at_call 72; refine (readWord_any Q R HQ.out HR.out _).mono ?_; rintro e w' ⟨rfl, rfl⟩)
          | (go_at_call 71; refine (HTB.out _).mono ?_; rintro e w' ⟨rfl, rfl⟩; rw [HN.out])
          | (at_builtin; refine wpList_app_parts rfl _ _ 54 rfl w.heap.size (wr.heap.size + 1) 88 iP Try.underlying54 hi1 hz1 hz2 hz3 LV _ acc [⟨k, N, ⟨#[]⟩⟩] rfl rfl (HO.out.alloc _) (parts_blk (w := wr.alloc _) (t := 88) (Blk.new_ _ _ _ rfl) (by simp) HFI.out (Nat.le_refl _)) (by simp; omega) (by simp; omega) ?_; intro v3 w3 ho3 ht3; have HO3 := Lib.hid ho3; have HTU := Lib.hid ht3; clear ho3 ht3))
        have hb3 : Below w.heap.size w w3 := (hb.alloc hb.size _).trans (HTU.out.below (by simp; omega) fun j hj => (HO.out.lt j hj).1)
        try go_step3
        show DJ w S.data.toList 0 _ _ ∧ dmu 0 _ _ < _
        refine DJ_lt (R.drop 8) (acc ++ [(⟨k, N, ⟨#[]⟩⟩ : Pt)]) rfl (congrArg Value.string HX.out) rfl rfl (by have := HSZ.out; simp only [List.length_append, List.length_singleton]; omega) HO3.out hb3 (.inl ⟨rfl, HF.out⟩) (by rw [if_neg (by decide)]; exact HSZ.out.2)
    · refine ⟨_, rfl, ?_⟩
      have HK := Lib.hid hk
      simp only [Fr78, h0, h2, h3]
      clear hk ho h0 h2 h3
      go_wp2
      simp only [jumps]
      go_ret2
      exact ⟨.inr (.inl ⟨hL, HK.out, rfl⟩), hb⟩
end Go.Proofs.Ytcebhoilokmhdaa
