/- Layer 2: the document's answer: part, Encode. -/
import Derived.Test.YtcebhoilokmhdaaTupRefC
namespace Go.Proofs.Ytcebhoilokmhdaa
open Go.RowKit
set_option linter.unusedVariables false

theorem ba_cons (c : UInt8) (l : List UInt8) : (⟨#[c]⟩ : ByteArray) ++ ⟨l.toArray⟩ = ⟨(c :: l).toArray⟩ := by apply ByteArray.ext; simp

set_option maxRecDepth 100000 in
set_option maxHeartbeats 1000000 in
theorem refPart_num (k n : Int) (hk : k = 2 ∨ k = 3) (s : ByteArray) (U : ByteArray) (hU : U = ⟨(pby k n s).toArray⟩) (w : World) :
    Calls Try.prog 65 #[.agg #[.int .i64 k, .int .i64 n, .string s]] w fun e w' => e = .returned (.string U) ∧ Below w.heap.size w w' := by
  obtain ⟨S, hS⟩ : ∃ S : ByteArray, S = ⟨(fld 8 n).toArray⟩ := ⟨_, rfl⟩
  obtain ⟨T, hT⟩ : ∃ T : ByteArray, T = ⟨(fld 8 (tn k n)).toArray⟩ := ⟨_, rfl⟩
  have HS := Lib.hid hS
  have HF := Lib.hid (fun W => refField_any n 8 (by decide) W)
  rw [← hS] at HF
  have htl : T.size = 8 := by rw [hT]; simp [ByteArray.size, len_fld]
  have hsum : ¬ (9223372036854775807 : Int) < 1 + (T.size : Int) := by omega
  rcases hk with rfl | rfl
  · have HTU := Lib.hid (fun W => refTurned_any S (fld 8 n) HS.out (len_fld _ _) false W)
    rw [turned_up, ← hT] at HTU
    have HU := Lib.hid (show (⟨#[3]⟩ : ByteArray) ++ T = U from by rw [hU, hT, ba_cons]; rfl)
    clear hS hT hU htl
    go_enter Try.func65, Try.ntmps65
    go_wp2_with (first
      | (go_at_call 17; refine (HF.out _).mono ?_; rintro e w1 ⟨rfl, hb1⟩)
      | (go_at_call 96; refine (HTU.out _).mono ?_; rintro e w2 ⟨rfl, hb2⟩))
    go_ret
    rw [HU.out]
    exact ⟨rfl, (((Below.refl _ _).alloc (Nat.le_refl _) _).trans (hb1.mono (by simp))).trans (hb2.mono (by have := hb1.size; simp at this; omega))⟩
  · have HTU := Lib.hid (fun W => refTurned_any S (fld 8 n) HS.out (len_fld _ _) true W)
    rw [turned_down, ← hT] at HTU
    have HU := Lib.hid (show (⟨#[4]⟩ : ByteArray) ++ T = U from by rw [hU, hT, ba_cons]; rfl)
    clear hS hT hU htl
    go_enter Try.func65, Try.ntmps65
    go_wp2_with (first
      | (go_at_call 17; refine (HF.out _).mono ?_; rintro e w1 ⟨rfl, hb1⟩)
      | (go_at_call 96; refine (HTU.out _).mono ?_; rintro e w2 ⟨rfl, hb2⟩))
    go_ret
    rw [HU.out]
    exact ⟨rfl, (((Below.refl _ _).alloc (Nat.le_refl _) _).trans (hb1.mono (by simp))).trans (hb2.mono (by have := hb1.size; simp at this; omega))⟩

theorem ext1 (s : ByteArray) (j : Nat) (h : j < s.size) : (s.extract j (j + 1)).data.toList = [s[j]] := by
  have h' : j < s.data.size := h
  have e : s[j] = s.data[j] := rfl
  rw [e]
  simp only [ByteArray.data_extract]
  apply List.ext_getElem
  · simp; omega
  · intro i h1 h2
    simp at h2
    subst h2
    simp
theorem size_list (V : ByteArray) (n : Nat) (l : List UInt8) (h : V.data.toList = l) (hl : l.length ≤ n) : V.size ≤ n := by
  have h1 : V.data.toList.length = V.size := by simp
  rw [h] at h1; omega
theorem ba_of_list {V U : ByteArray} {l : List UInt8} (h : V.data.toList = l) (hU : U = ⟨l.toArray⟩) : V = U := by
  subst hU; apply ByteArray.ext; simp [← h]

set_option maxRecDepth 100000 in
set_option maxHeartbeats 1000000 in
theorem refPart_text (n : Int) (s : ByteArray) (hs : s.size ≤ 100000) (U : ByteArray) (hU : U = ⟨(pby 1 n s).toArray⟩) (w : World) :
    Calls Try.prog 65 #[.agg #[.int .i64 1, .int .i64 n, .string s]] w fun e w' => e = .returned (.string U) ∧ Below w.heap.size w w' := by
  have HU := Lib.hid hU
  clear hU
  go_enter Try.func65, Try.ntmps65
  go_wp2
  go_loop [3, 4] (fun o i => ∃ (j : Nat) (V : ByteArray), j ≤ s.size ∧ i = .int .i64 j ∧ o = .string V ∧ V.data.toList = 2 :: esc (s.data.toList.take j)) (fun _ i => s.size - (intOf i).toNat)
  case atStart => exact ⟨0, ⟨#[2]⟩, Nat.zero_le _, rfl, rfl, rfl⟩
  case round =>
    obtain ⟨j, V, hj, rfl, rfl, hV⟩ := hrel
    have hsz : V.size ≤ 300000 := by
      have h1 : V.data.toList.length = V.size := by simp
      rw [hV] at h1
      have h2 := List.count_le_length (a := (0 : UInt8)) (l := s.data.toList.take j)
      have h3 : (s.data.toList.take j).length ≤ s.size := by rw [List.length_take, len_ba]; omega
      rw [List.length_cons, len_esc] at h1
      omega
    have HV := Lib.hid hV
    clear hV
    by_cases hlt : j < s.size
    · have HE := Lib.hid (esc_take_succ s j hlt)
      have HX := Lib.hid (ext1 s j hlt)
      have hj0 : (0 : Int) ≤ j := by omega
      have hj1 : (j : Int) ≤ (j : Int) + 1 := by omega
      have hj2 : (j : Int) + 1 ≤ s.size := by omega
      have hn : ((j : Int) + 1).toNat = j + 1 := by omega
      by_cases h0 : s[j] = 0
      · have hq := byte_is0 h0
        have H0 := Lib.hid h0
        clear h0
        go_wp2
        go_round
        case rel => exact ⟨j + 1, _, by omega, by go_num, rfl, by rw [ByteArray.data_append, ByteArray.data_append, Array.toList_append, Array.toList_append, HX.out, HV.out, HE.out, if_pos H0.out, H0.out, List.append_assoc]; rfl⟩
        case measure => simp [intOf]; omega
      · have hq := byte_not0 h0
        have H0 := Lib.hid h0
        clear h0
        go_wp2
        go_round
        case rel => exact ⟨j + 1, _, by omega, by go_num, rfl, by rw [ByteArray.data_append, Array.toList_append, HX.out, HV.out, HE.out, if_neg H0.out]; rfl⟩
        case measure => simp [intOf]; omega
    · obtain rfl : j = s.size := by omega
      go_wp2
      go_ret
      refine ⟨?_, (Below.refl _ _).alloc (Nat.le_refl _) _⟩
      rw [ba_of_list (V := V ++ ⟨#[0, 1]⟩) (l := 2 :: (esc s.data.toList ++ [0, 1])) (by rw [ByteArray.data_append, Array.toList_append, HV.out, List.take_of_length_le (by simp)]; rfl) HU.out]
      rfl
theorem refPart_any (k n : Int) (s : ByteArray) (h : prt k n s = true) (hs : s.size ≤ 100000) (U : ByteArray) (hU : U = ⟨(pby k n s).toArray⟩) (w : World) :
    Calls Try.prog 65 #[.agg #[.int .i64 k, .int .i64 n, .string s]] w fun e w' => e = .returned (.string U) ∧ Below w.heap.size w w' := by
  rcases prt_cases h with ⟨rfl, _⟩ | ⟨rfl, _⟩ | ⟨rfl, _⟩
  · exact refPart_text n s hs U hU w
  · exact refPart_num 2 n (.inl rfl) s U hU w
  · exact refPart_num 3 n (.inr rfl) s U hU w

set_option maxRecDepth 100000 in
set_option maxHeartbeats 1000000 in
theorem refEncode_ok (v : Value) (l : List Pt) (w : World) (hl : Parts w w.heap.size v l) (hc : chk l = 0) (S : ByteArray) (hS : S = ⟨(kby l).toArray⟩) :
    Calls Try.prog 36 #[v] w fun e w' => e = .returned (.tuple #[.string S, .int .i64 0]) ∧ Below w.heap.size w w' := by
  obtain ⟨hall, hps⟩ := chk_ok hc
  have HL := Lib.hid hl
  obtain ⟨A, cap, rfl, hr, hm, hlen⟩ := hl
  have HR := Lib.hid hr
  have HM := Lib.hid hm
  have HA := Lib.hid hall
  have HC := Lib.hid hc
  have HS := Lib.hid hS
  clear hr hm hall hc hS
  go_enter Try.func36, Try.ntmps36
  go_wp2_with (go_at_call 38; refine (refCheck_any _ l _ HL.out).mono ?_; rintro e w1 ⟨rfl, hb1⟩; rw [HC.out])
  have HB1 := Lib.hid hb1
  clear hb1
  go_loopw [5, 6] (fun o i wr => ∃ (j : Nat) (V : ByteArray), j ≤ l.length ∧ i = .int .i64 j ∧ o = .string V ∧ V.data.toList = kby (l.take j) ∧ Below w.heap.size w wr) (fun _ i _ => l.length - (intOf i).toNat)
  case atStart => exact ⟨0, ⟨#[]⟩, Nat.zero_le _, rfl, rfl, rfl, HB1.out⟩
  case round =>
    obtain ⟨j, V, hj, rfl, rfl, hV, hb⟩ := hrel
    have hvs : V.size ≤ 128 := size_list V 128 _ hV (by rw [len_kby]; have := pszs_take_le l j; omega)
    have HV := Lib.hid hV
    clear hV
    by_cases hlt : j < l.length
    · obtain ⟨ad, rfl, hsp, hbk, hcell⟩ := HR.out (by omega)
      obtain ⟨b, off, spot⟩ := ad
      obtain rfl : spot = none := hsp
      obtain ⟨p, hp⟩ : ∃ p, l[j]? = some p := ⟨_, List.getElem?_eq_getElem hlt⟩
      obtain ⟨h0, h1, h2⟩ := hcell j p hp
      have c0 : wr.cell? ⟨b, off + j * 3, none⟩ = some (.int .i64 p.k) := (hb.cell (p := ⟨b, off + j * 3, none⟩) hbk).trans h0
      have c1 : wr.cell? ⟨b, off + j * 3 + 1, none⟩ = some (.int .i64 p.n) := (hb.cell (p := ⟨b, off + j * 3 + 1, none⟩) hbk).trans h1
      have c2 : wr.cell? ⟨b, off + j * 3 + 2, none⟩ = some (.string p.s) := (hb.cell (p := ⟨b, off + j * 3 + 2, none⟩) hbk).trans h2
      have hbw : b < wr.heap.size := Nat.lt_of_lt_of_le hbk hb.size
      have hmem : p ∈ l := List.mem_of_getElem? hp
      have HK := Lib.hid (kby_take_succ hp)
      have hpr := HA.out p hmem
      have hsz := size_le_psz p.k p.n p.s hpr
      have hsz2 := psz_le_mem hmem
      have hsx : p.s.size ≤ 100000 := by omega
      obtain ⟨T, hT⟩ : ∃ T : ByteArray, T = ⟨(pby p.k p.n p.s).toArray⟩ := ⟨_, rfl⟩
      have hts : T.size ≤ 128 := by rw [hT]; have := len_pby p.k p.n p.s; simp only [ByteArray.size, List.size_toArray]; omega
      have hsum : ¬ (9223372036854775807 : Int) < (V.size : Int) + (T.size : Int) := by omega
      have HT := Lib.hid hT
      have HP := Lib.hid (fun W => refPart_any p.k p.n p.s hpr hsx T hT W)
      clear hcell h0 h1 h2 hp hpr hsz hsz2 hmem hsx hT
      go_wp2_with (go_at_call 65; refine (HP.out _).mono ?_; rintro e w2 ⟨rfl, hb2⟩)
      go_roundw
      case rel => exact ⟨j + 1, V ++ T, by omega, by go_num, rfl, by rw [HK.out, ByteArray.data_append, Array.toList_append, HV.out, HT.out], bthen hb hb.size hb2⟩
      case measure => simp [intOf]; omega
    · obtain rfl : j = l.length := by omega
      rw [List.take_length] at HV
      obtain rfl : V = S := ba_of_list HV.out HS.out
      go_wp2
      go_ret2
      exact ⟨rfl, hb⟩
theorem refEncode_any (v : Value) (l : List Pt) (w : World) (hl : Parts w w.heap.size v l) (S : ByteArray) (c : Int) (hc : chk l = c) (hS : encS l = S) :
    Calls Try.prog 36 #[v] w fun e w' => e = .returned (.tuple #[.string S, .int .i64 c]) ∧ Below w.heap.size w w' := by
  subst hS
  by_cases h : chk l = 0
  · subst hc
    have e : encS l = ⟨(kby l).toArray⟩ := if_pos h
    have := refEncode_ok v l w hl h (encS l) e
    rwa [h]
  · have e : encS l = ByteArray.empty := if_neg h
    rw [e]
    rw [hc] at h
    have h1 : (c == 0) = false := by simpa using h
    have h2 : (c != 0) = true := by simpa using h
    have HL := Lib.hid hl
    have HC := Lib.hid hc
    clear hl hc h e
    go_enter Try.func36, Try.ntmps36
    go_wp2_with (go_at_call 38; refine (refCheck_any v l _ HL.out).mono ?_; rintro e w1 ⟨rfl, hb⟩; rw [HC.out])
    go_ret2
    exact ⟨rfl, hb⟩

end Go.Proofs.Ytcebhoilokmhdaa
