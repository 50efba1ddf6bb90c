/- Layer 7: what an alloc's iterator hands on. -/
import Derived.Test.YtmedljnbcpdoeaaDoorAlH
import Derived.Test.YtmedljnbcpdoeaaDoorAlQ
import Derived.Scope
import Derived.WalkMore
namespace Go.Proofs.YtmedljnbcpdoeaaDoor
open Go.RowKit Go.Shelf
set_option linter.unusedVariables false
set_option maxRecDepth 100000
attribute [local go_sem] Oper.semAt_some

theorem rowsFn7 (v : Value) (hv : v.oneCell' = true) (w : World) :
    Calls Tryd.prog 69 #[v] w fun e w' => e = .returned (.func (.func 74) #[] #[.pointer (some ⟨w.heap.size, 0, none⟩)]) ∧ w' = w.alloc (.cells #[v] 74) := by
  go_enter Tryd.func69, Tryd.ntmps69
  go_wp2
  go_ret
  exact ⟨rfl, rfl⟩
/-- The words and the table stand. -/
def KpA (g : Nat) (W W' : World) : Prop := Turn (fun k => ¬ (k = g ∨ k = 0)) W W'
set_option maxHeartbeats 4000000 in
theorem rows_stops (p g b : Nat) (l : List Bool) (w0 : World) (h : Al w0 p g l) (hb : w0.cell? ⟨b, 0, none⟩ = some (.pointer (some ⟨p, 0, none⟩))) :
    SeqStopsK Fence.wide 2 Tryd.prog 74 #[.pointer (some ⟨b, 0, none⟩)] (fun x : Rw l.length => #[.int .i64 x.i, .int .i64 x.c]) (KpA g)
      (fun xs => xs.map Rw.f = rows7 l) (fun xs => ∃ rest, rows7 l = xs.map Rw.f ++ rest) (rows7 l).length w0 := fun L J Jx W hW hJ hJx hY h0 => by
  have hle := h.le
  have HK : Hid (∀ X, Turn (fun k => ¬ (k = g ∨ k = 0)) w0 X → Tb X) := Lib.hid (fun X hX => h.tb.turn hX (fun hn => hn (.inr rfl)))
  obtain ⟨c, rest, h1, h2, h3, h4, h5, h6⟩ := h
  have HG : Hid (∀ X, Turn (fun k => ¬ (k = g ∨ k = 0)) w0 X → ∀ k, k < l.length / 64 + 1 → X.cell? ⟨g, k, none⟩ = some (.int .u64 ((wd l k : Nat) : Int))) := Lib.hid (fun X hX k hk => by
    have := (h2.turn hX (fun hn => hn (.inl rfl))).cell k
    rw [List.getElem?_append_left (by rw [len_words]; exact hk), words_at _ _ hk] at this
    exact this)
  have hgl := h2.lt
  have HW : Hid (Turn (fun k => ¬ (k = g ∨ k = 0)) w0 W) := Lib.hid (Turn.of_below hW (fun k h1 h2 => by omega))
  have x0 : W.cell? ⟨b, 0, none⟩ = some (.pointer (some ⟨p, 0, none⟩)) := (hW.cell (p := ⟨b, 0, none⟩) (cell_lt hb)).trans hb
  have x1 : W.cell? ⟨p, 1, none⟩ = some (.slice (some ⟨g, 0, none⟩) (l.length / 64 + 1) c) := (hW.cell (p := ⟨p, 1, none⟩) h1.lt).trans (h1.cell 1)
  have HR := Lib.hid (rw7_pad7 l)
  have HM := Lib.hid (rows7_mem l)
  have hN : l.length / 64 + 1 ≤ 257 := by omega
  obtain ⟨N, hNe⟩ : ∃ N, N = l.length / 64 + 1 := ⟨_, rfl⟩
  rw [← hNe] at x1 hN HG
  have HNE := Lib.hid hNe
  have HDN : Hid ((pad7 l).drop (64 * N) = []) := Lib.hid (List.drop_eq_nil_of_le (by rw [len_pad7]; omega))
  clear h1 h2 h5 h6 hb hW hNe
  refine callsIn_of_wp Tryd.func74 rfl trivial ?_ rfl
  simp only [Tryd.ntmps74, List.size_toArray, List.length_cons, List.length_nil, Nat.reduceAdd, Nat.reduceSub, Array.replicate_succ, Array.replicate_zero, List.push_toArray, List.append_toArray, List.nil_append, List.cons_append]
  refine wpIn_wide.2 (wp_scope_straight ((wpIn_wide (n := 2)).1 ?_))
  gi_wp2
  refine wpIn_label ?_
  gi_wp2
  gi_loopw [3, 13] (fun v3 v13 wr => ∃ (n row : Nat) (pre : List (Rw l.length)), n ≤ N ∧ v13 = .int .i64 n ∧ v3 = .int .i64 row ∧ row ≤ 64 * n ∧ Turn (fun k => ¬ (k = g ∨ k = 0)) w0 wr ∧ J pre wr ∧ rows7 l = pre.map Rw.f ++ rw7 (64 * n) row ((pad7 l).drop (64 * n)) ∧ W.heap.size ≤ wr.heap.size) (fun _ v13 _ => N - (intOf v13).toNat)
  case atStart => exact ⟨0, 0, [], Nat.zero_le _, rfl, rfl, Nat.zero_le _, HW.out, h0, HR.out.symm, Nat.le_refl _⟩
  case round =>
    obtain ⟨n, row, pre, hn, rfl, rfl, hrow, ht, hJs, hE, hsz⟩ := hrel
    have HT := Lib.hid ht
    have HJ := Lib.hid hJs
    have HE := Lib.hid hE
    clear ht hJs hE
    by_cases hlt : n < N
    · have x2 := HG.out wr HT.out n hlt
      have hi : (n : Int) < (N : Int) := by omega
      gi_wp2_with fail
      gi_loopw [3, 6] (fun v3 v6 wi => ∃ (q r : Nat) (pr : List (Rw l.length)), q ≤ 64 ∧ v6 = .int .i64 q ∧ v3 = .int .i64 r ∧ r ≤ 64 * n + q ∧ Turn (fun k => ¬ (k = g ∨ k = 0)) w0 wi ∧ J pr wi ∧ rows7 l = pr.map Rw.f ++ rw7 (64 * n + q) r ((pad7 l).drop (64 * n + q)) ∧ W.heap.size ≤ wi.heap.size) (fun _ v6 _ => 64 - (intOf v6).toNat)
      case atStart => exact ⟨0, row, pre, by omega, rfl, rfl, by omega, HT.out, HJ.out, HE.out, hsz⟩
      case round =>
        obtain ⟨q, r, pr, hq, rfl, rfl, hr, ht, hJs, hE, hsz2⟩ := hrel
        obtain ⟨s1, s2⟩ := step7 l n q r (by rw [← HNE.out]; exact hlt) hq
        have HRN := Lib.hid (run7 (wd l n) q (wd_lt l n) hq wr (HK.out wr ht))
        have HOB := Lib.hid (ones_bits (wd l n) q (wd_lt l n) hq).2.2
        have HSK := Lib.hid (fun p row x hp hb hx => skip7 l n p row x (by rw [← HNE.out]; exact hlt) hp hb hx)
        have HRN2 := Lib.hid (fun p (hp : p ≤ 64) w hT => run7 (18446744073709551616 - (wd l n + 1)) p (Nat.sub_lt (by decide) (Nat.succ_pos _)) hp w hT)
        have hnt := not7 (wd l n) (wd_lt l n)
        rw [s2] at hE
        generalize ones (wd l n) q = f at *
        generalize wd l n = X at *
        have HE2 := Lib.hid hE
        have HT2 := Lib.hid ht
        have HJ2 := Lib.hid hJs
        obtain ⟨m, hm⟩ : ∃ m, m = q + f := ⟨_, rfl⟩
        obtain ⟨t, htt⟩ : ∃ t, t = r + f := ⟨_, rfl⟩
        rw [← hm] at s1 HOB HE2
        rw [← htt] at HE2
        have e1 : IntKind.i64.wrap ((r : Int) + (f : Int)) = (t : Int) := by rw [wrap_of _ (by omega) (by omega)]; omega
        have e2 : IntKind.i64.wrap ((q : Int) + (f : Int)) = (m : Int) := by rw [wrap_of _ (by omega) (by omega)]; omega
        have e1' : (r : Int) + (f : Int) = (t : Int) := by omega
        have e2' : (q : Int) + (f : Int) = (m : Int) := by omega
        have hqm : q ≤ m := by omega
        have htm : t ≤ 64 * n + m := by omega
        have hnN : 64 * n + m ≤ 16448 := by omega
        clear s2 hE ht hJs hm htt
        by_cases h64 : m = 64
        · subst h64
          have e3 := wrap_of ((n : Int) + 1) (by omega) (by omega)
          have h640 : (((64 : Nat) : Int) == 64) = true := rfl
          gi_wp2_with fail
          refine ⟨trivial, ?_⟩
          gi_at_call 75
          refine (callsIn_wide.2 HRN.out).mono ?_
          rintro e w' ⟨rfl, rfl⟩
          gi_wp2_with fail
          go_roundw
          case rel => exact ⟨n + 1, t, pr, hlt, by simp, rfl, by omega, HT2.out, HJ2.out, by rw [show 64 * (n + 1) = 64 * n + 64 from by omega]; exact HE2.out, hsz2⟩
          case measure => (simp [intOf]; try omega)
        · have h64b : ((m : Int) == 64) = false := by simp; omega
          obtain ⟨k1, k2, k3⟩ := HSK.out m t _ (by omega) HOB.out rfl
          have HRN3 := Lib.hid (fun w hT => HRN2.out m (by omega) w hT)
          generalize 18446744073709551616 - (X + 1) = Y at *
          generalize ones Y m = s at *
          have HK3 := Lib.hid k3
          have e8 : IntKind.i64.wrap ((m : Int) + (s : Int)) = ((m + s : Nat) : Int) := by rw [wrap_of _ (by omega) (by omega)]; omega
          have e8' : (m : Int) + (s : Int) = ((m + s : Nat) : Int) := by omega
          clear k3
          obtain ⟨ms, hms⟩ : ∃ ms, ms = m + s := ⟨_, rfl⟩
          rw [← hms] at e8 e8' HK3
          have hms1 : m < ms := by omega
          have hms2 : ms ≤ 64 := by omega
          clear hms
          by_cases ht0 : 0 < t
          · have HE3 : Hid (rows7 l = pr.map Rw.f ++ ((64 * n + m - t, t) :: rw7 (64 * n + ms) 0 ((pad7 l).drop (64 * n + ms)))) := Lib.hid (by rw [HE2.out, HK3.out, if_pos ht0]; rfl)
            have hmem : (64 * n + m - t, t) ∈ rows7 l := by rw [HE3.out]; simp
            have hx := (HM.out _ hmem).2.1
            have hlen : pr.length < (rows7 l).length := by rw [HE3.out]; simp
            obtain ⟨I, hI⟩ : ∃ I, I = 64 * n + m - t := ⟨_, rfl⟩
            rw [← hI] at HE3
            simp only [← hI] at hx
            have hI2 : (n : Int) * 64 + (m : Int) - (t : Int) = (I : Int) := by omega
            have e4 := wrap_of ((n : Int) * 64) (by omega) (by omega)
            have e5 := wrap_of ((n : Int) * 64 + (m : Int)) (by omega) (by omega)
            have e6 : IntKind.i64.wrap ((n : Int) * 64 + (m : Int) - (t : Int)) = (I : Int) := by rw [wrap_of _ (by omega) (by omega)]; exact hI2
            have ht0i : (0 : Int) < (t : Int) := by omega
            obtain ⟨fn, tmps, assign, body, hy, hR⟩ := hY pr ⟨I, t, hx⟩ wr HJ2.out hlen
            clear hmem hI hlen
            gi_wp2_with fail
            refine ⟨trivial, ?_⟩
            gi_at_call 75
            refine (callsIn_wide.2 HRN.out).mono ?_
            rintro e w' ⟨rfl, rfl⟩
            gi_wp2_with fail
            refine hR.mono ?_
            rintro e W3 (⟨rfl, hJ3, hK3⟩ | ⟨rfl, hJx3⟩)
            · have HT3 := Lib.hid (HT2.out.trans hK3)
              have HJ3 := Lib.hid hJ3
              have hsz3 := Nat.le_trans hsz2 hK3.size
              clear hJ3 hK3
              gi_wp2_with fail
              refine ⟨trivial, ?_⟩
              gi_at_call 75
              refine (callsIn_wide.2 (HRN3.out _ (HK.out _ HT3.out))).mono ?_
              rintro e w' ⟨rfl, rfl⟩
              gi_wp2_with fail
              go_roundw
              case rel => exact ⟨ms, 0, pr ++ [⟨I, t, hx⟩], hms2, rfl, rfl, Nat.zero_le _, HT3.out, HJ3.out, by rw [HE3.out]; simp [Rw.f], hsz3⟩
              case measure => (simp [intOf]; try omega)
            · gi_wp2_with fail
              rw [Exit.noGoto_normal]
              go_end0
              exact ⟨⟨_, rfl⟩, .inr ⟨pr ++ [⟨I, t, hx⟩], ⟨_, by rw [HE3.out]; simp only [List.map_append, List.map_cons, List.map_nil, Rw.f, List.append_assoc, List.singleton_append]; rfl⟩, hJx3⟩⟩
          · obtain rfl : t = 0 := by omega
            gi_wp2_with fail
            refine ⟨trivial, ?_⟩
            gi_at_call 75
            refine (callsIn_wide.2 HRN.out).mono ?_
            rintro e w' ⟨rfl, rfl⟩
            gi_wp2_with fail
            refine ⟨(fun f h => by cases h), ?_⟩
            gi_wp2_with fail
            refine ⟨trivial, ?_⟩
            gi_at_call 75
            refine (callsIn_wide.2 (HRN3.out _ (HK.out _ HT2.out))).mono ?_
            rintro e w' ⟨rfl, rfl⟩
            gi_wp2_with fail
            go_roundw
            case rel => exact ⟨ms, 0, pr, hms2, rfl, rfl, Nat.zero_le _, HT2.out, HJ2.out, by rw [HE2.out, HK3.out, if_neg ht0]; rfl, hsz2⟩
            case measure => (simp [intOf]; try omega)
    · obtain rfl : n = N := by omega
      gi_wp2_with fail
      rw [Exit.noGoto_normal]
      go_end0
      exact ⟨⟨_, rfl⟩, .inl ⟨pre, by rw [HE.out, HDN.out]; simp [rw7], HJ.out⟩⟩
end Go.Proofs.YtmedljnbcpdoeaaDoor
