/- Layer 2: the document's answer: Decode. -/
import Derived.Test.YtcebhoilokmhdaaTupRefF
import Derived.Test.YtcebhoilokmhdaaTupDecC
namespace Go.Proofs.Ytcebhoilokmhdaa
open Go.RowKit
set_option linter.unusedVariables false

theorem first_any (S : ByteArray) (c : UInt8) (l : List UInt8) (hS : S = ⟨(c :: l).toArray⟩) (hsz : S.size ≤ 128) (w : World) :
    Calls Try.prog 73 #[.string S] w fun e w' => FOut S.size (firstPart c l) e ∧ Below w.heap.size w w' := by
  by_cases h2 : c = 2
  · subst h2; exact first_text S l hS hsz w
  · by_cases h3 : c = 3
    · exact first_num S c l hS 2 (.inl ⟨rfl, h3⟩) hsz w
    · by_cases h4 : c = 4
      · exact first_num S c l hS 3 (.inr ⟨rfl, h4⟩) hsz w
      · exact first_other S c l hS h2 h3 h4 w
theorem first_no (S : ByteArray) (c : UInt8) (l : List UInt8) (hS : S = ⟨(c :: l).toArray⟩) (hsz : S.size ≤ 128) (hf : firstPart c l = none) (w : World) :
    Calls Try.prog 73 #[.string S] w fun e w' => e = .returned (.tuple #[.agg #[.int .i64 0, .int .i64 0, .string ⟨#[]⟩], .int .i64 0]) ∧ Below w.heap.size w w' := by
  refine (first_any S c l hS hsz w).mono ?_
  rintro e w' ⟨h, hb⟩
  rw [hf] at h
  exact ⟨h, hb⟩
theorem first_yes (S : ByteArray) (c : UInt8) (l : List UInt8) (hS : S = ⟨(c :: l).toArray⟩) (hsz : S.size ≤ 128) (p : Pt) (r : List UInt8) (n : Nat) (hf : firstPart c l = some (p, r)) (hn : n + r.length = S.size) (w : World) :
    Calls Try.prog 73 #[.string S] w fun e w' => e = .returned (.tuple #[.agg #[.int .i64 p.k, .int .i64 p.n, .string p.s], .int .i64 n]) ∧ Below w.heap.size w w' := by
  refine (first_any S c l hS hsz w).mono ?_
  rintro e w' ⟨h, hb⟩
  rw [hf] at h
  refine ⟨?_, hb⟩
  rw [show e = _ from h, show (S.size : Int) - r.length = n from by omega]

set_option maxRecDepth 100000 in
set_option maxHeartbeats 2000000 in
theorem refDecode_any (S : ByteArray) (hs : (S.size : Int) ≤ 128) (w : World) :
    Calls Try.prog 41 #[.string S] w (DPost w S.data.toList) := by
  obtain ⟨iP, hi1, hz1, hz2, hz3⟩ := info_parts3 Try.infoPart
  have hL : S.data.toList.length ≤ 128 := by rw [len_ba]; omega
  go_enter Try.func41, Try.ntmps41
  go_wp2
  go_loopw [0, 4] (fun sv ov wr => ∃ (R : List UInt8) (acc : List Pt), sv = .string ⟨R.toArray⟩ ∧ R.length + acc.length ≤ 128 ∧ wr.ownsRow w.heap.size 88 3 ov acc.length (pcs acc) ∧ dec S.data.toList = (dec R).map (acc ++ ·) ∧ Below w.heap.size w wr) (fun sv _ _ => strLen sv)
  case atStart => exact ⟨S.data.toList, [], rfl, by simpa using hL, World.ownsRow_nil _ _ _ _, by cases dec S.data.toList <;> rfl, Below.refl _ _⟩
  case round =>
    obtain ⟨R, acc, rfl, hl, ho, hk, hb⟩ := hrel
    obtain ⟨Q, hQ⟩ : ∃ Q : ByteArray, Q = ⟨R.toArray⟩ := ⟨_, rfl⟩
    rw [← hQ]
    have HQ := Lib.hid hQ
    have HO := Lib.hid ho
    have HK := Lib.hid hk
    have hqs : Q.size = R.length := by rw [hQ]; simp [ByteArray.size]
    clear hQ ho hk
    cases R with
    | nil =>
      have h0 : ¬ (0 : Int) < Q.size := by rw [hqs]; simp
      clear hqs
      go_wp2
      go_ret2
      exact ⟨.inr (.inr ⟨hL, _, acc, by rw [HK.out, dec_nil]; simp, rfl, HO.out⟩), hb⟩
    | cons c R =>
      simp only [List.length_cons] at hqs hl
      have h0 : (0 : Int) < Q.size := by omega
      have hkd := HK.out
      rw [dec_cons] at hkd
      have hsz : Q.size ≤ 128 := by omega
      cases hf : firstPart c R with
      | none =>
        have HF := Lib.hid (show dec S.data.toList = none from by rw [hkd, hf]; rfl)
        have HFN := Lib.hid (fun W => first_no Q c R HQ.out hsz hf W)
        clear hkd hf hqs
        go_wp2_with (go_at_call 73; refine (HFN.out _).mono ?_; rintro e w1 ⟨rfl, hb1⟩)
        go_ret2
        exact ⟨.inr (.inl ⟨hL, HF.out, rfl⟩), (hb.trans (hb1.mono hb.size)).alloc (by have := hb.size; have := hb1.size; omega) _⟩
      | some x =>
        obtain ⟨p, r⟩ := x
        have hrl := firstPart_len hf
        obtain ⟨hby, hrg⟩ := first_back hf
        obtain ⟨n, hn⟩ : ∃ n, n + r.length = Q.size := ⟨Q.size - r.length, by omega⟩
        have hn0 : ((n : Int) == 0) = false := by simp; omega
        have hn1 : (0 : Int) ≤ n := by omega
        have hn2 : (n : Int) ≤ Q.size := by omega
        have HX := Lib.hid (show Q.extract n Q.size = ⟨r.toArray⟩ from by
          have e1 : n = (pby p.k p.n p.s).length := by
            have := congrArg List.length hby
            simp only [List.length_cons, List.length_append] at this
            omega
          rw [HQ.out, hby, e1]
          apply ByteArray.ext
          simp [ByteArray.data_extract, ByteArray.size])
        have HF := Lib.hid (show dec S.data.toList = (dec r).map ((acc ++ [p]) ++ ·) from by
          rw [hkd, hf]; show ((dec r).map _).map _ = _; rw [Option.map_map]; congr 1; funext z; simp)
        have hps : p.s.size ≤ 128 := by
          have h1 := size_le_psz p.k p.n p.s hrg.1
          have h2 := congrArg List.length hby
          rw [List.length_append, len_pby] at h2
          simp only [List.length_cons] at h2
          omega
        have HFI := Lib.hid (show fine [p] from ⟨by intro q hq; obtain rfl : q = p := List.mem_singleton.1 hq; exact ⟨by omega, hrg.2⟩, by simp⟩)
        have HFY := Lib.hid (fun W => first_yes Q c R HQ.out hsz p r n hf hn W)
        have HSZ := Lib.hid (show r.length + acc.length + 1 ≤ 128 ∧ r.length < Q.size from ⟨by omega, by omega⟩)
        have hal : acc.length ≤ 128 := by omega
        have hz := hb.size
        clear hkd hf hqs hrl hby hrg hn hps
        go_wp2_with (first
          | (go_at_call 73; refine (HFY.out _).mono ?_; rintro e w1 ⟨rfl, hb1⟩; have hz1' := hb1.size; have HO1 := Lib.hid (own_turn HO.out (Turn.of_below (S := fun k => wr.heap.size ≤ k) hb1 (fun k _ h => h)) (fun k hk => by have := (HO.out.lt k hk).2; omega)))
          | (at_builtin; refine wpList_app_parts rfl _ _ 54 rfl w.heap.size (w1.heap.size + 2) 88 iP Try.underlying54 hi1 hz1 hz2 hz3 _ _ acc [p] rfl rfl ((HO1.out.alloc _).alloc _) (parts_blk (t := 88) (Blk.new_ _ _ _ (by simp)) (by simp) HFI.out (Nat.le_refl _)) (by simp; omega) (by simp; omega) ?_; intro v3 w3 ho3 ht3; have HO3 := Lib.hid ho3; have HTU := Lib.hid ht3; clear ho3 ht3))
        have hb3 : Below w.heap.size w w3 := (((hb.trans (hb1.mono hz)).alloc (by omega) _).alloc (by simp; omega) _).trans (HTU.out.below (by simp; omega) fun j hj => (HO1.out.lt j hj).1)
        go_roundw
        case rel => exact ⟨r, acc ++ [p], congrArg Value.string HX.out, by have := HSZ.out; simp only [List.length_append, List.length_singleton]; omega, HO3.out, HF.out, hb3⟩
        case measure =>
          show strLen (.string (Q.extract n Q.size)) < Q.size
          rw [HX.out]
          have e : ∀ r : List UInt8, (⟨r.toArray⟩ : ByteArray).size = r.length := fun r => by simp [ByteArray.size]
          show (⟨r.toArray⟩ : ByteArray).size < _
          rw [e]
          exact HSZ.out.2
theorem refDecode_big (S : ByteArray) (hs : (128 : Int) < S.size) (w : World) :
    Calls Try.prog 41 #[.string S] w fun e w' => e = .returned (.tuple #[.slice none 0 0, .int .i64 5]) ∧ Below w.heap.size w w' := by
  go_enter Try.func41, Try.ntmps41
  go_wp2
  go_ret2
  exact ⟨rfl, Below.refl _ _⟩
theorem refDecode_none (S : ByteArray) (hs : (S.size : Int) ≤ 128) (hd : dec S.data.toList = none) (w : World) :
    Calls Try.prog 41 #[.string S] w fun e w' => e = .returned (.tuple #[.slice none 0 0, .int .i64 4]) ∧ Below w.heap.size w w' := by
  refine (refDecode_any S hs w).mono ?_
  rintro e w' ⟨⟨h, _⟩ | ⟨_, _, h⟩ | ⟨_, v, ps, h, _⟩, hb⟩
  · rw [len_ba] at h; omega
  · exact ⟨h, hb⟩
  · rw [hd] at h; cases h
theorem refDecode_some (S : ByteArray) (hs : (S.size : Int) ≤ 128) (ps : List Pt) (hd : dec S.data.toList = some ps) (w : World) :
    Calls Try.prog 41 #[.string S] w fun e w' => ∃ A c, e = .returned (.tuple #[.slice A ps.length c, .int .i64 0]) ∧ Parts w' w'.heap.size (.slice A ps.length c) ps ∧ Below w.heap.size w w' := by
  refine (refDecode_any S hs w).mono ?_
  rintro e w' ⟨⟨h, _⟩ | ⟨_, h, _⟩ | ⟨_, v, ps', h, he, ho⟩, hb⟩
  · rw [len_ba] at h; omega
  · rw [hd] at h; cases h
  · rw [hd] at h; cases h
    have hp := parts_of_own ho (fine_dec (by rw [len_ba]; omega) hd)
    obtain ⟨A, c, rfl, hx⟩ := hp
    exact ⟨A, c, he, ⟨A, c, rfl, hx⟩, hb⟩
end Go.Proofs.Ytcebhoilokmhdaa
