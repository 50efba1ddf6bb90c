/- Layer 2: Encode, compareParts, CompareFunc, Compare. -/
import Derived.Test.YtcebhoilokmhdaaTupB
import Derived.StillTailTactics
namespace Go.Proofs.Ytcebhoilokmhdaa
open Go.RowKit
set_option linter.unusedVariables false

theorem kby_take_succ {l : List Pt} {i : Nat} {p : Pt} (hi : l[i]? = some p) : kby (l.take (i + 1)) = kby (l.take i) ++ pby p.k p.n p.s := by
  rw [List.take_add_one, hi, kby_app]; simp [kby]
theorem size_le_psz (k n : Int) (s : ByteArray) (h : prt k n s = true) : s.size ≤ psz k s := by
  rcases prt_cases h with ⟨rfl, _⟩ | ⟨rfl, hs⟩ | ⟨rfl, hs⟩
  · unfold psz; rw [if_pos rfl]; omega
  · rw [hs]; omega
  · rw [hs]; omega
theorem psz_le_mem {l : List Pt} {p : Pt} (h : p ∈ l) : psz p.k p.s ≤ pszs l := by
  induction l with
  | nil => cases h
  | cons q l ih =>
    have e : pszs (q :: l) = psz q.k q.s + pszs l := by simp [pszs]
    rcases List.mem_cons.1 h with rfl | h
    · omega
    · have := ih h; omega

theorem encode_no (v : Value) (l : List Pt) (w : World) (hl : Parts w w.heap.size v l) (hc : chk l ≠ 0) :
    Calls Try.prog 35 #[v] w fun e w' => e = .returned (.tuple #[.string ByteArray.empty, .int .i64 (chk l)]) ∧ Below w.heap.size w w' := by
  obtain ⟨c, hcc⟩ : ∃ c, chk l = c := ⟨_, rfl⟩
  rw [hcc] at hc ⊢
  have h1 : (c == 0) = false := by simpa using hc
  have h2 : (c != 0) = true := by simpa using hc
  have HL := Lib.hid hl
  have HC := Lib.hid hcc
  clear hl hcc hc
  go_enter Try.func35, Try.ntmps35
  go_wp2_with (go_at_call 37; refine (check_any v l _ HL.out).mono ?_; rintro e w1 ⟨rfl, hb⟩; rw [HC.out])
  go_ret2
  exact ⟨rfl, hb⟩

set_option maxRecDepth 100000 in
set_option maxHeartbeats 1000000 in
theorem encode_ok (v : Value) (l : List Pt) (w : World) (hl : Parts w w.heap.size v l) (hc : chk l = 0) (S : ByteArray) (hS : S = ⟨(kby l).toArray⟩) :
    Calls Try.prog 35 #[v] w fun e w' => e = .returned (.tuple #[.string S, .int .i64 0]) ∧ Below w.heap.size w w' := by
  obtain ⟨hall, hps⟩ := chk_ok hc
  obtain ⟨A, cap, rfl, hr, hm, hlen⟩ := hl
  have HL := Lib.hid (show Parts w w.heap.size (.slice A l.length cap) l from ⟨A, cap, rfl, hr, hm, hlen⟩)
  have HR := Lib.hid hr
  have HM := Lib.hid hm
  have HA := Lib.hid hall
  have HC := Lib.hid hc
  have HS := Lib.hid hS
  clear hr hm hall hc hS
  go_enter Try.func35, Try.ntmps35
  go_wp2_with (go_at_call 37; refine (check_any _ l _ HL.out).mono ?_; rintro e w1 ⟨rfl, hb1⟩; rw [HC.out])
  have HB1 := Lib.hid hb1
  clear hb1
  go_loopw [5, 15] (fun o i wr => ∃ j : Nat, j ≤ l.length ∧ i = .int .i64 j ∧ wr.ownsRow w.heap.size 5 1 o (kby (l.take j)).length (bv (kby (l.take j))) ∧ Below w.heap.size w wr) (fun _ i _ => l.length - (intOf i).toNat)
  case atStart => exact ⟨0, Nat.zero_le _, rfl, World.ownsRow_nil _ _ _ _, HB1.out⟩
  case round =>
    obtain ⟨j, hj, rfl, hown, hb⟩ := hrel
    have HO := Lib.hid hown
    clear hown
    have hlk : (kby (l.take j)).length ≤ 128 := by rw [len_kby]; have := pszs_take_le l j; omega
    by_cases hlt : j < l.length
    · obtain ⟨ad, rfl, hsp, hbk, hcell⟩ := HR.out (by omega)
      obtain ⟨b, off, spot⟩ := ad
      obtain rfl : spot = none := hsp
      obtain ⟨p, hp⟩ : ∃ p, l[j]? = some p := ⟨_, List.getElem?_eq_getElem hlt⟩
      obtain ⟨h0, h1, h2⟩ := hcell j p hp
      have c0 : wr.cell? ⟨b, off + j * 3, none⟩ = some (.int .i64 p.k) := (hb.cell (p := ⟨b, off + j * 3, none⟩) hbk).trans h0
      have c1 : wr.cell? ⟨b, off + j * 3 + 1, none⟩ = some (.int .i64 p.n) := (hb.cell (p := ⟨b, off + j * 3 + 1, none⟩) hbk).trans h1
      have c2 : wr.cell? ⟨b, off + j * 3 + 2, none⟩ = some (.string p.s) := (hb.cell (p := ⟨b, off + j * 3 + 2, none⟩) hbk).trans h2
      have HP := Lib.hid hp
      have hbw : b < wr.heap.size := Nat.lt_of_lt_of_le hbk hb.size
      have hmem : p ∈ l := List.mem_of_getElem? hp
      have HK := Lib.hid (kby_take_succ hp)
      have hpm := HM.out p hmem
      have hpr := HA.out p hmem
      have hsz := size_le_psz p.k p.n p.s hpr
      have hsz2 := psz_le_mem hmem
      have HX := Lib.hid (show p.s.size ≤ 100000 ∧ (kby (l.take j)).length ≤ 90000 from ⟨by omega, by omega⟩)
      have HPR := Lib.hid hpr
      have HPM := Lib.hid hpm
      clear hcell h0 h1 h2 hp hpm hpr hsz hsz2 hmem hlk
      have hz := hb.size
      go_wp2_with (go_at_call 64; refine (appendPart_any w.heap.size _ (kby (l.take j)) _ _ _ _ (HO.out.alloc _) (by simp; omega) HX.out.2 HX.out.1 HPR.out HPM.out.2.1 HPM.out.2.2).mono ?_; rintro e w2 ⟨v2, rfl, ho2, hb2⟩; have HO2 := Lib.hid ho2; clear ho2)
      go_roundw
      case rel => exact ⟨j + 1, by omega, by go_num, by rw [HK.out]; exact HO2.out, (hb.alloc hb.size _).trans hb2⟩
      case measure => simp [intOf]; omega
    · obtain rfl : j = l.length := by omega
      rw [List.take_length] at HO
      obtain ⟨A', cap', rfl, hconv⟩ := made_str _ HO.out
      rw [← HS.out] at hconv
      go_wp2
      go_ret2
      exact ⟨rfl, hb⟩

/-- Encode's bytes. -/
def encS (l : List Pt) : ByteArray := if chk l = 0 then ⟨(kby l).toArray⟩ else ByteArray.empty
theorem encode_any (v : Value) (l : List Pt) (w : World) (hl : Parts w w.heap.size v l) (S : ByteArray) (c : Int) (hc : chk l = c) (hS : encS l = S) :
    Calls Try.prog 35 #[v] w fun e w' => e = .returned (.tuple #[.string S, .int .i64 c]) ∧ Below w.heap.size w w' := by
  subst hc hS
  by_cases h : chk l = 0
  · have e : encS l = ⟨(kby l).toArray⟩ := if_pos h
    have := encode_ok v l w hl h (encS l) e
    rwa [h]
  · have e : encS l = ByteArray.empty := if_neg h
    rw [e]
    exact encode_no v l w hl h
theorem encS_ok {l : List Pt} (h : chk l = 0) : encS l = ⟨(kby l).toArray⟩ := if_pos h
theorem encS_no {l : List Pt} (h : chk l ≠ 0) : encS l = ByteArray.empty := if_neg h
theorem encS_list {l : List Pt} (h : chk l = 0) : (encS l).toList = kby l := by rw [encS_ok h, ByteArray.toList_eq]
theorem encS_size {l : List Pt} (h : chk l = 0) : (encS l).size = pszs l := by rw [encS_ok h]; simp [ByteArray.size, len_kby]
end Go.Proofs.Ytcebhoilokmhdaa
