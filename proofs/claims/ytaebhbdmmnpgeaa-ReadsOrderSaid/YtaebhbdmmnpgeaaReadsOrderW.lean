/- ReadsOrder: its walk. -/
import Derived.Test.YtaebhbdmmnpgeaaReadsCoverW
import Derived.Test.YtaebhbdmmnpgeaaRdQ
namespace Go.Proofs.Ytaebhbdmmnpgeaa
open Go.RowKit Go.Shelf
set_option linter.unusedVariables false
set_option linter.unusedSimpArgs false
set_option maxRecDepth 100000
attribute [local go_sem] Oper.semAt_some

/-- A variable of reads: its box, what it reads. -/
structure Rv16 (X : World) (g : Nat) (K : List ByteArray) (S : List Pq2) (A : Option Addr) (n c : Nat) (B : Option Addr) (m d : Nat) : Prop where
  b : Blk X g 60 [.slice A n c, .slice B m d]
  k : Kx X (.slice A n c) K
  p : Px X (.slice B m d) S
  c : m ≤ d
section
variable {X X' : World} {g h : Nat} {K K' : List ByteArray} {S S' : List Pq2} {A A' B B' C D : Option Addr} {n c m d n' c' m' d' q1 q2 q3 q4 : Nat}
theorem Rv16.still (v : Rv16 X g K S A n c B m d) (ht : Turn (fun _ => False) X X') : Rv16 X' g K S A n c B m d := ⟨v.b.turn ht (fun e => e), v.k.still ht, v.p.still ht, v.c⟩
theorem Rv16.put (v : Rv16 X g K S A n c B m d) (hk : Kx X (.slice A' n' c') K') (hp : Px X (.slice B' m' d') S') (hc : m' ≤ d') : Rv16 ((X.setCell ⟨g, 0, none⟩ (.slice A' n' c')).setCell ⟨g, 1, none⟩ (.slice B' m' d')) g K' S' A' n' c' B' m' d' := by
  obtain ⟨h1, h2⟩ := put2_16 v.b (.slice A' n' c') (.slice B' m' d')
  exact ⟨h1, hk.off16 v.b two_slices16 h2, hp.off16c v.b two_slices16 h2, hc⟩
theorem Rv16.other (v : Rv16 X g K S A n c B m d) (o : Blk X h 60 [.slice C q1 q2, .slice D q3 q4]) (hne : g ≠ h) (x0 x1 : Value) : Rv16 ((X.setCell ⟨h, 0, none⟩ x0).setCell ⟨h, 1, none⟩ x1) g K S A n c B m d := by
  obtain ⟨h1, h2⟩ := put2_16 o x0 x1
  exact ⟨v.b.turn h2 hne, v.k.off16 o two_slices16 h2, v.p.off16c o two_slices16 h2, v.c⟩
theorem Rv16.len (v : Rv16 X g K S A n c B m d) : K.length = n ∧ S.length = m := by
  obtain ⟨_, _, e, _⟩ := v.k
  obtain ⟨_, _, e2, _⟩ := v.p
  injection e with _ e _
  injection e2 with _ e2 _
  exact ⟨e.symm, e2.symm⟩
theorem Rv16.span (v : Rv16 X g K S A n c B m d) (s : Pq2) (r : List ByteArray × List Pq2 × Int) (e : span16 K S s = r) : Calls Try.prog 31 #[.agg #[.slice A n c, .slice B m d], .string s.k, .string s.v] X (RP16 X r) := by
  subst e
  exact span_16 K S s.k s.v A n c B m d X v.k v.p v.c
theorem Rv16.key (v : Rv16 X g K S A n c B m d) (k : ByteArray) (r : List ByteArray × List Pq2 × Int) (e : key16 K S k = r) : Calls Try.prog 29 #[.agg #[.slice A n c, .slice B m d], .string k] X (RP16 X r) := by
  subst e
  exact key_16 K S k A n c B m d X v.k v.p
theorem Rv16.same (v : Rv16 X g K S A n c B m d) (u : Rv16 X h K S A' n' c' B' m' d') (hl : K.length ≤ 1000 ∧ S.length ≤ 1000) : Calls Try.prog 35 #[.agg #[.slice A n c, .slice B m d], .agg #[.slice A' n' c', .slice B' m' d']] X fun e w' => e = .returned (.bool true) ∧ Turn (fun _ => False) X w' := by
  have hv := v.len
  exact refSame_16 K S A n c B m d A' n' c' B' m' d' X v.k v.p u.k u.p (by omega) (by omega)
end
set_option maxHeartbeats 16000000 in
theorem readsOrder_of (L : List ByteArray) (S : List Pq2) (a b : Pq2) (kj kk : ByteArray) (A1 : Option Addr) (n1 c1 : Nat) (A2 : Option Addr) (n2 c2 : Nat) (w : World) (hk : Kx w (.slice A1 n1 c1) L) (hs : Px w (.slice A2 n2 c2) S) (hcap : n2 ≤ c2) :
    Calls Try.prog 10 #[.agg #[.slice A1 n1 c1, .slice A2 n2 c2], .agg #[.string a.k, .string a.v], .agg #[.string b.k, .string b.v], .string kj, .string kk] w fun r w' => r = .returned (.bool true) ∧ Turn (fun _ => False) w w' := by
  have HCH := Lib.hid (fun W (hW : Turn (fun _ => False) w W) => check_16 L S A1 n1 c1 A2 n2 c2 W (hk.still hW) (hs.still hW))
  obtain ⟨W1, hW1⟩ : ∃ W, w.alloc (.cells #[.slice A1 n1 c1, .slice A2 n2 c2] 60) = W := ⟨_, rfl⟩
  obtain ⟨W2, hW2⟩ : ∃ W, W1.alloc (.cells #[.string a.k, .string a.v] 73) = W := ⟨_, rfl⟩
  obtain ⟨W3, hW3⟩ : ∃ W, W2.alloc (.cells #[.string b.k, .string b.v] 73) = W := ⟨_, rfl⟩
  have T1 : Hid (Turn (fun _ => False) w W1) := Lib.hid (hW1 ▸ (Turn.refl (fun _ => False) w).alloc _)
  have U2 : Hid (Turn (fun _ => False) W1 W2) := Lib.hid (hW2 ▸ (Turn.refl (fun _ => False) W1).alloc _)
  have U3 : Hid (Turn (fun _ => False) W2 W3) := Lib.hid (hW3 ▸ (Turn.refl (fun _ => False) W2).alloc _)
  have T0 := Lib.hid ((T1.out.trans U2.out).trans U3.out)
  have R0 : Hid (Rv16 W3 w.heap.size L S A1 n1 c1 A2 n2 c2) := Lib.hid ⟨((show Blk W1 w.heap.size 60 [.slice A1 n1 c1, .slice A2 n2 c2] from hW1 ▸ Blk.new _ _ _).turn U2.out (fun e => e)).turn U3.out (fun e => e), hk.still T0.out, hs.still T0.out, hcap⟩
  have BA0 : Hid (Blk W3 W1.heap.size 73 [.string a.k, .string a.v]) := Lib.hid ((show Blk W2 W1.heap.size 73 [.string a.k, .string a.v] from hW2 ▸ Blk.new _ _ _).turn U3.out (fun e => e))
  have BB0 : Hid (Blk W3 W2.heap.size 73 [.string b.k, .string b.v]) := Lib.hid (hW3 ▸ Blk.new _ _ _)
  have hz1 : w.heap.size < W1.heap.size := by rw [← hW1]; simp
  have hz2 : W1.heap.size < W2.heap.size := by rw [← hW2]; simp
  obtain ⟨r0, r1⟩ := cells2b16 R0.out.b
  obtain ⟨a0, a1⟩ := cells2b16 BA0.out
  obtain ⟨b0, b1⟩ := cells2b16 BB0.out
  have HLEN := Lib.hid R0.out.len
  have HZ := Lib.hid (And.intro hz1 hz2)
  clear hk hs hz1 hz2
  have hways : (40 : Int) < (n1 : Int) ∨ (¬ (40 : Int) < (n1 : Int) ∧ (40 : Int) < (n2 : Int)) ∨ (¬ (40 : Int) < (n1 : Int) ∧ ¬ (40 : Int) < (n2 : Int)) := by omega
  rcases hways with g1 | ⟨g1, g2⟩ | ⟨g1, g2⟩
  · go_enter Try.func10, Try.ntmps10
    go_wp2_with (go_at_call 27; refine (lives_16 _).mono ?_; rintro e w9 ⟨rfl, t9⟩)
    go_ret
    exact ⟨rfl, T0.out.trans t9⟩
  · go_enter Try.func10, Try.ntmps10
    go_wp2_with (go_at_call 27; refine (lives_16 _).mono ?_; rintro e w9 ⟨rfl, t9⟩)
    go_ret
    exact ⟨rfl, T0.out.trans t9⟩
  · cases hr : rgb16 L S with
    | false =>
      rw [hr] at HCH
      simp only [Bool.false_eq_true, if_false] at HCH
      clear hr
      go_enter Try.func10, Try.ntmps10
      go_wp2_with (first
        | (go_at_call 27; refine (lives_16 _).mono ?_; rintro e w9 ⟨rfl, t9⟩; have T9 := Lib.hid (T3.out.trans t9); clear t9)
        | (go_at_call 33; refine (HCH.out _ T0.out).mono ?_; rintro e w3 ⟨rfl, t3⟩; have T3 := Lib.hid (T0.out.trans t3); clear t3))
      go_ret
      exact ⟨rfl, T9.out⟩
    | true =>
      have HRG := Lib.hid (rgb_iff.1 hr)
      rw [hr] at HCH
      simp only [if_true] at HCH
      clear hr
      obtain ⟨K1, S1, K2, S2, K3, S3, e1, e2, e3, e4, e5⟩ := spans_order a b HRG.out (by have := HLEN.out; omega)
      obtain ⟨J1, J2, J3, f1, f2, f3, f4, f5⟩ := keys_order kj kk HRG.out (by have := HLEN.out; omega)
      have l1 := span_few HRG.out (by have := HLEN.out; omega) e1
      have l2 := span_few l1.1 (by have := HLEN.out; omega) e2
      have l3 := key_few HRG.out (by have := HLEN.out; omega) f1
      have l4 := key_few l3.1 (by have := HLEN.out; omega) f2
      have HLS := Lib.hid (show K2.length ≤ 1000 ∧ S2.length ≤ 1000 from by have := HLEN.out; omega)
      have HLK := Lib.hid (show J2.length ≤ 1000 ∧ S.length ≤ 1000 from by have := HLEN.out; omega)
      have E1 := Lib.hid e1
      have E2 := Lib.hid e2
      have E3 := Lib.hid e3
      have E4 := Lib.hid e4
      have E5 := Lib.hid e5
      have F1 := Lib.hid f1
      have F2 := Lib.hid f2
      have F3 := Lib.hid f3
      have F4 := Lib.hid f4
      have F5 := Lib.hid f5
      clear e1 e2 e3 e4 e5 f1 f2 f3 f4 f5 l1 l2 l3 l4
      go_enter Try.func10, Try.ntmps10
      go_wp2_with (go_at_call 33; refine (HCH.out _ T0.out).mono ?_; rintro e w3 ⟨rfl, t3⟩; have TC := Lib.hid t3; obtain ⟨r0, r1⟩ := cells2b16 (R0.out.b.turn t3 (fun h => h)); obtain ⟨a0, a1⟩ := cells2b16 (BA0.out.turn t3 (fun h => h)); obtain ⟨b0, b1⟩ := cells2b16 (BB0.out.turn t3 (fun h => h)); clear t3)
      have T1z := Lib.hid (T0.out.trans TC.out)
      have R2z := Lib.hid (R0.out.still TC.out)
      have B3z := Lib.hid (BA0.out.turn TC.out (fun e => e))
      have B4z := Lib.hid (BB0.out.turn TC.out (fun e => e))
      refine (R2z.out.span a _ E1.out).mono ?_
      rintro e v1 ⟨AA1, nn1, cc1, BB1, mm1, dd1, rfl, hk1, hp1, hc1, ht1⟩
      simp only at hk1 hp1 ⊢
      have Kq1 := Lib.hid hk1
      have Pq1 := Lib.hid hp1
      have Cq1 := Lib.hid hc1
      have Hq1 := Lib.hid ht1
      clear hk1 hp1 hc1 ht1
      have T5z := Lib.hid (T1z.out.trans Hq1.out)
      have R6z := Lib.hid (R2z.out.still Hq1.out)
      have B7z := Lib.hid (B3z.out.turn Hq1.out (fun e => e))
      have B8z := Lib.hid (B4z.out.turn Hq1.out (fun e => e))
      have Z9z : Hid (w.heap.size < v1.heap.size) := Lib.hid R6z.out.b.lt
      have Z10z : Hid (W1.heap.size < v1.heap.size) := Lib.hid B7z.out.lt
      have Z11z : Hid (W2.heap.size < v1.heap.size) := Lib.hid B8z.out.lt
      have T12z := Lib.hid (T5z.out.trans ((Turn.refl (fun _ => False) v1).alloc (.cells #[.slice AA1 nn1 cc1, .slice BB1 mm1 dd1] 60)))
      have R13z := Lib.hid (R6z.out.still ((Turn.refl (fun _ => False) v1).alloc (.cells #[.slice AA1 nn1 cc1, .slice BB1 mm1 dd1] 60)))
      have B14z := Lib.hid (B7z.out.turn ((Turn.refl (fun _ => False) v1).alloc (.cells #[.slice AA1 nn1 cc1, .slice BB1 mm1 dd1] 60)) (fun e => e))
      have B15z := Lib.hid (B8z.out.turn ((Turn.refl (fun _ => False) v1).alloc (.cells #[.slice AA1 nn1 cc1, .slice BB1 mm1 dd1] 60)) (fun e => e))
      have R16z : Hid (Rv16 (v1.alloc (.cells #[.slice AA1 nn1 cc1, .slice BB1 mm1 dd1] 60)) v1.heap.size _ _ AA1 nn1 cc1 BB1 mm1 dd1) := Lib.hid ⟨Blk.new v1 60 [.slice AA1 nn1 cc1, .slice BB1 mm1 dd1], Kq1.out.still ((Turn.refl _ _).alloc _), Pq1.out.still ((Turn.refl _ _).alloc _), Cq1.out⟩
      obtain ⟨x17z, y18z⟩ := cells2b16 R13z.out.b
      obtain ⟨x19z, y20z⟩ := cells2b16 R16z.out.b
      obtain ⟨p21z, q22z⟩ := free2_16 R16z.out.b
      obtain ⟨x23z, y24z⟩ := cells2b16 B14z.out
      obtain ⟨x25z, y26z⟩ := cells2b16 B15z.out
      go_wp2_with fail
      refine (R16z.out.span b _ E2.out).mono ?_
      rintro e v2 ⟨AA2, nn2, cc2, BB2, mm2, dd2, rfl, hk2, hp2, hc2, ht2⟩
      simp only at hk2 hp2 ⊢
      have Kq2 := Lib.hid hk2
      have Pq2 := Lib.hid hp2
      have Cq2 := Lib.hid hc2
      have Hq2 := Lib.hid ht2
      clear hk2 hp2 hc2 ht2
      have T27z := Lib.hid (T12z.out.trans Hq2.out)
      have R28z := Lib.hid (R13z.out.still Hq2.out)
      have R29z := Lib.hid (R16z.out.still Hq2.out)
      have B30z := Lib.hid (B14z.out.turn Hq2.out (fun e => e))
      have B31z := Lib.hid (B15z.out.turn Hq2.out (fun e => e))
      obtain ⟨pr2a, pr2b⟩ := cells2b16 R29z.out.b
      obtain ⟨pf2a, pf2b⟩ := free2_16 R29z.out.b
      have R32z := Lib.hid (R28z.out.other R29z.out.b (by have := Z9z.out; have := Z10z.out; have := Z11z.out; have := HZ.out; omega) (.slice AA2 nn2 cc2) (.slice BB2 mm2 dd2))
      have S33z := Lib.hid (put2_16 R29z.out.b (.slice AA2 nn2 cc2) (.slice BB2 mm2 dd2)).2
      have B34z := Lib.hid (B30z.out.turn S33z.out (by have := Z9z.out; have := Z10z.out; have := Z11z.out; have := HZ.out; omega))
      have B35z := Lib.hid (B31z.out.turn S33z.out (by have := Z9z.out; have := Z10z.out; have := Z11z.out; have := HZ.out; omega))
      have T36z := Lib.hid (T27z.out.trans_new S33z.out (fun k hk e => by have := Z9z.out; have := Z10z.out; have := Z11z.out; have := HZ.out; have := T0.out.size; omega))
      have R37z := Lib.hid (R29z.out.put Kq2.out Pq2.out Cq2.out)
      clear x17z y18z x19z y20z p21z q22z x23z y24z x25z y26z
      obtain ⟨x38z, y39z⟩ := cells2b16 R32z.out.b
      obtain ⟨x40z, y41z⟩ := cells2b16 R37z.out.b
      obtain ⟨p42z, q43z⟩ := free2_16 R37z.out.b
      obtain ⟨x44z, y45z⟩ := cells2b16 B34z.out
      obtain ⟨x46z, y47z⟩ := cells2b16 B35z.out
      go_wp2_with fail
      refine (R32z.out.span b _ E3.out).mono ?_
      rintro e v3 ⟨AA3, nn3, cc3, BB3, mm3, dd3, rfl, hk3, hp3, hc3, ht3⟩
      simp only at hk3 hp3 ⊢
      have Kq3 := Lib.hid hk3
      have Pq3 := Lib.hid hp3
      have Cq3 := Lib.hid hc3
      have Hq3 := Lib.hid ht3
      clear hk3 hp3 hc3 ht3
      have T48z := Lib.hid (T36z.out.trans Hq3.out)
      have R49z := Lib.hid (R32z.out.still Hq3.out)
      have R50z := Lib.hid (R37z.out.still Hq3.out)
      have B51z := Lib.hid (B34z.out.turn Hq3.out (fun e => e))
      have B52z := Lib.hid (B35z.out.turn Hq3.out (fun e => e))
      have Z53z : Hid (w.heap.size < v3.heap.size) := Lib.hid R49z.out.b.lt
      have Z54z : Hid (v1.heap.size < v3.heap.size) := Lib.hid R50z.out.b.lt
      have Z55z : Hid (W1.heap.size < v3.heap.size) := Lib.hid B51z.out.lt
      have Z56z : Hid (W2.heap.size < v3.heap.size) := Lib.hid B52z.out.lt
      have T57z := Lib.hid (T48z.out.trans ((Turn.refl (fun _ => False) v3).alloc (.cells #[.slice AA3 nn3 cc3, .slice BB3 mm3 dd3] 60)))
      have R58z := Lib.hid (R49z.out.still ((Turn.refl (fun _ => False) v3).alloc (.cells #[.slice AA3 nn3 cc3, .slice BB3 mm3 dd3] 60)))
      have R59z := Lib.hid (R50z.out.still ((Turn.refl (fun _ => False) v3).alloc (.cells #[.slice AA3 nn3 cc3, .slice BB3 mm3 dd3] 60)))
      have B60z := Lib.hid (B51z.out.turn ((Turn.refl (fun _ => False) v3).alloc (.cells #[.slice AA3 nn3 cc3, .slice BB3 mm3 dd3] 60)) (fun e => e))
      have B61z := Lib.hid (B52z.out.turn ((Turn.refl (fun _ => False) v3).alloc (.cells #[.slice AA3 nn3 cc3, .slice BB3 mm3 dd3] 60)) (fun e => e))
      have R62z : Hid (Rv16 (v3.alloc (.cells #[.slice AA3 nn3 cc3, .slice BB3 mm3 dd3] 60)) v3.heap.size _ _ AA3 nn3 cc3 BB3 mm3 dd3) := Lib.hid ⟨Blk.new v3 60 [.slice AA3 nn3 cc3, .slice BB3 mm3 dd3], Kq3.out.still ((Turn.refl _ _).alloc _), Pq3.out.still ((Turn.refl _ _).alloc _), Cq3.out⟩
      clear x38z y39z x40z y41z p42z q43z x44z y45z x46z y47z
      obtain ⟨x63z, y64z⟩ := cells2b16 R58z.out.b
      obtain ⟨x65z, y66z⟩ := cells2b16 R59z.out.b
      obtain ⟨p67z, q68z⟩ := free2_16 R59z.out.b
      obtain ⟨x69z, y70z⟩ := cells2b16 R62z.out.b
      obtain ⟨p71z, q72z⟩ := free2_16 R62z.out.b
      obtain ⟨x73z, y74z⟩ := cells2b16 B60z.out
      obtain ⟨x75z, y76z⟩ := cells2b16 B61z.out
      go_wp2_with fail
      refine (R62z.out.span a _ E4.out).mono ?_
      rintro e v4 ⟨AA4, nn4, cc4, BB4, mm4, dd4, rfl, hk4, hp4, hc4, ht4⟩
      simp only at hk4 hp4 ⊢
      have Kq4 := Lib.hid hk4
      have Pq4 := Lib.hid hp4
      have Cq4 := Lib.hid hc4
      have Hq4 := Lib.hid ht4
      clear hk4 hp4 hc4 ht4
      have T77z := Lib.hid (T57z.out.trans Hq4.out)
      have R78z := Lib.hid (R58z.out.still Hq4.out)
      have R79z := Lib.hid (R59z.out.still Hq4.out)
      have R80z := Lib.hid (R62z.out.still Hq4.out)
      have B81z := Lib.hid (B60z.out.turn Hq4.out (fun e => e))
      have B82z := Lib.hid (B61z.out.turn Hq4.out (fun e => e))
      obtain ⟨pr4a, pr4b⟩ := cells2b16 R80z.out.b
      obtain ⟨pf4a, pf4b⟩ := free2_16 R80z.out.b
      have R83z := Lib.hid (R78z.out.other R80z.out.b (by have := Z9z.out; have := Z10z.out; have := Z11z.out; have := Z53z.out; have := Z54z.out; have := Z55z.out; have := Z56z.out; have := HZ.out; omega) (.slice AA4 nn4 cc4) (.slice BB4 mm4 dd4))
      have R84z := Lib.hid (R79z.out.other R80z.out.b (by have := Z9z.out; have := Z10z.out; have := Z11z.out; have := Z53z.out; have := Z54z.out; have := Z55z.out; have := Z56z.out; have := HZ.out; omega) (.slice AA4 nn4 cc4) (.slice BB4 mm4 dd4))
      have S85z := Lib.hid (put2_16 R80z.out.b (.slice AA4 nn4 cc4) (.slice BB4 mm4 dd4)).2
      have B86z := Lib.hid (B81z.out.turn S85z.out (by have := Z9z.out; have := Z10z.out; have := Z11z.out; have := Z53z.out; have := Z54z.out; have := Z55z.out; have := Z56z.out; have := HZ.out; omega))
      have B87z := Lib.hid (B82z.out.turn S85z.out (by have := Z9z.out; have := Z10z.out; have := Z11z.out; have := Z53z.out; have := Z54z.out; have := Z55z.out; have := Z56z.out; have := HZ.out; omega))
      have T88z := Lib.hid (T77z.out.trans_new S85z.out (fun k hk e => by have := Z9z.out; have := Z10z.out; have := Z11z.out; have := Z53z.out; have := Z54z.out; have := Z55z.out; have := Z56z.out; have := HZ.out; have := T0.out.size; omega))
      have R89z := Lib.hid (R80z.out.put Kq4.out Pq4.out Cq4.out)
      clear x63z y64z x65z y66z p67z q68z x69z y70z p71z q72z x73z y74z x75z y76z
      obtain ⟨x90z, y91z⟩ := cells2b16 R83z.out.b
      obtain ⟨x92z, y93z⟩ := cells2b16 R84z.out.b
      obtain ⟨p94z, q95z⟩ := free2_16 R84z.out.b
      obtain ⟨x96z, y97z⟩ := cells2b16 R89z.out.b
      obtain ⟨p98z, q99z⟩ := free2_16 R89z.out.b
      obtain ⟨x100z, y101z⟩ := cells2b16 B86z.out
      obtain ⟨x102z, y103z⟩ := cells2b16 B87z.out
      go_wp2_with fail
      refine (R84z.out.span a _ E5.out).mono ?_
      rintro e v5 ⟨AA5, nn5, cc5, BB5, mm5, dd5, rfl, hk5, hp5, hc5, ht5⟩
      simp only at hk5 hp5 ⊢
      have Kq5 := Lib.hid hk5
      have Pq5 := Lib.hid hp5
      have Cq5 := Lib.hid hc5
      have Hq5 := Lib.hid ht5
      clear hk5 hp5 hc5 ht5
      have T104z := Lib.hid (T88z.out.trans Hq5.out)
      have R105z := Lib.hid (R83z.out.still Hq5.out)
      have R106z := Lib.hid (R84z.out.still Hq5.out)
      have R107z := Lib.hid (R89z.out.still Hq5.out)
      have B108z := Lib.hid (B86z.out.turn Hq5.out (fun e => e))
      have B109z := Lib.hid (B87z.out.turn Hq5.out (fun e => e))
      have Z110z : Hid (w.heap.size < v5.heap.size) := Lib.hid R105z.out.b.lt
      have Z111z : Hid (v1.heap.size < v5.heap.size) := Lib.hid R106z.out.b.lt
      have Z112z : Hid (v3.heap.size < v5.heap.size) := Lib.hid R107z.out.b.lt
      have Z113z : Hid (W1.heap.size < v5.heap.size) := Lib.hid B108z.out.lt
      have Z114z : Hid (W2.heap.size < v5.heap.size) := Lib.hid B109z.out.lt
      have T115z := Lib.hid (T104z.out.trans ((Turn.refl (fun _ => False) v5).alloc (.cells #[.slice AA5 nn5 cc5, .slice BB5 mm5 dd5] 60)))
      have R116z := Lib.hid (R105z.out.still ((Turn.refl (fun _ => False) v5).alloc (.cells #[.slice AA5 nn5 cc5, .slice BB5 mm5 dd5] 60)))
      have R117z := Lib.hid (R106z.out.still ((Turn.refl (fun _ => False) v5).alloc (.cells #[.slice AA5 nn5 cc5, .slice BB5 mm5 dd5] 60)))
      have R118z := Lib.hid (R107z.out.still ((Turn.refl (fun _ => False) v5).alloc (.cells #[.slice AA5 nn5 cc5, .slice BB5 mm5 dd5] 60)))
      have B119z := Lib.hid (B108z.out.turn ((Turn.refl (fun _ => False) v5).alloc (.cells #[.slice AA5 nn5 cc5, .slice BB5 mm5 dd5] 60)) (fun e => e))
      have B120z := Lib.hid (B109z.out.turn ((Turn.refl (fun _ => False) v5).alloc (.cells #[.slice AA5 nn5 cc5, .slice BB5 mm5 dd5] 60)) (fun e => e))
      have R121z : Hid (Rv16 (v5.alloc (.cells #[.slice AA5 nn5 cc5, .slice BB5 mm5 dd5] 60)) v5.heap.size _ _ AA5 nn5 cc5 BB5 mm5 dd5) := Lib.hid ⟨Blk.new v5 60 [.slice AA5 nn5 cc5, .slice BB5 mm5 dd5], Kq5.out.still ((Turn.refl _ _).alloc _), Pq5.out.still ((Turn.refl _ _).alloc _), Cq5.out⟩
      clear x90z y91z x92z y93z p94z q95z x96z y97z p98z q99z x100z y101z x102z y103z
      obtain ⟨x122z, y123z⟩ := cells2b16 R116z.out.b
      obtain ⟨x124z, y125z⟩ := cells2b16 R117z.out.b
      obtain ⟨p126z, q127z⟩ := free2_16 R117z.out.b
      obtain ⟨x128z, y129z⟩ := cells2b16 R118z.out.b
      obtain ⟨p130z, q131z⟩ := free2_16 R118z.out.b
      obtain ⟨x132z, y133z⟩ := cells2b16 R121z.out.b
      obtain ⟨x134z, y135z⟩ := cells2b16 B119z.out
      obtain ⟨x136z, y137z⟩ := cells2b16 B120z.out
      go_wp2_with fail
      refine (R117z.out.same R118z.out HLS.out).mono ?_
      rintro e v6 ⟨rfl, ht6⟩
      have Hq6 := Lib.hid ht6
      clear ht6
      have T138z := Lib.hid (T115z.out.trans Hq6.out)
      have R139z := Lib.hid (R116z.out.still Hq6.out)
      have R140z := Lib.hid (R117z.out.still Hq6.out)
      have R141z := Lib.hid (R118z.out.still Hq6.out)
      have R142z := Lib.hid (R121z.out.still Hq6.out)
      have B143z := Lib.hid (B119z.out.turn Hq6.out (fun e => e))
      have B144z := Lib.hid (B120z.out.turn Hq6.out (fun e => e))
      clear x122z y123z x124z y125z p126z q127z x128z y129z p130z q131z x132z y133z x134z y135z x136z y137z
      obtain ⟨x145z, y146z⟩ := cells2b16 R139z.out.b
      obtain ⟨x147z, y148z⟩ := cells2b16 R140z.out.b
      obtain ⟨p149z, q150z⟩ := free2_16 R140z.out.b
      obtain ⟨x151z, y152z⟩ := cells2b16 R141z.out.b
      obtain ⟨p153z, q154z⟩ := free2_16 R141z.out.b
      obtain ⟨x155z, y156z⟩ := cells2b16 R142z.out.b
      obtain ⟨x157z, y158z⟩ := cells2b16 B143z.out
      obtain ⟨x159z, y160z⟩ := cells2b16 B144z.out
      go_wp2_with fail
      refine (R140z.out.same R142z.out HLS.out).mono ?_
      rintro e v7 ⟨rfl, ht7⟩
      have Hq7 := Lib.hid ht7
      clear ht7
      have T161z := Lib.hid (T138z.out.trans Hq7.out)
      have R162z := Lib.hid (R139z.out.still Hq7.out)
      have R163z := Lib.hid (R140z.out.still Hq7.out)
      have R164z := Lib.hid (R141z.out.still Hq7.out)
      have R165z := Lib.hid (R142z.out.still Hq7.out)
      have B166z := Lib.hid (B143z.out.turn Hq7.out (fun e => e))
      have B167z := Lib.hid (B144z.out.turn Hq7.out (fun e => e))
      clear x145z y146z x147z y148z p149z q150z x151z y152z p153z q154z x155z y156z x157z y158z x159z y160z
      obtain ⟨x168z, y169z⟩ := cells2b16 R162z.out.b
      obtain ⟨x170z, y171z⟩ := cells2b16 R163z.out.b
      obtain ⟨p172z, q173z⟩ := free2_16 R163z.out.b
      obtain ⟨x174z, y175z⟩ := cells2b16 R164z.out.b
      obtain ⟨p176z, q177z⟩ := free2_16 R164z.out.b
      obtain ⟨x178z, y179z⟩ := cells2b16 R165z.out.b
      obtain ⟨x180z, y181z⟩ := cells2b16 B166z.out
      obtain ⟨x182z, y183z⟩ := cells2b16 B167z.out
      go_wp2_with fail
      refine (R162z.out.key kj _ F1.out).mono ?_
      rintro e v8 ⟨AA8, nn8, cc8, BB8, mm8, dd8, rfl, hk8, hp8, hc8, ht8⟩
      simp only at hk8 hp8 ⊢
      have Kq8 := Lib.hid hk8
      have Pq8 := Lib.hid hp8
      have Cq8 := Lib.hid hc8
      have Hq8 := Lib.hid ht8
      clear hk8 hp8 hc8 ht8
      have T184z := Lib.hid (T161z.out.trans Hq8.out)
      have R185z := Lib.hid (R162z.out.still Hq8.out)
      have Z186z : Hid (w.heap.size < v8.heap.size) := Lib.hid R185z.out.b.lt
      have T187z := Lib.hid (T184z.out.trans ((Turn.refl (fun _ => False) v8).alloc (.cells #[.slice AA8 nn8 cc8, .slice BB8 mm8 dd8] 60)))
      have R188z := Lib.hid (R185z.out.still ((Turn.refl (fun _ => False) v8).alloc (.cells #[.slice AA8 nn8 cc8, .slice BB8 mm8 dd8] 60)))
      have R189z : Hid (Rv16 (v8.alloc (.cells #[.slice AA8 nn8 cc8, .slice BB8 mm8 dd8] 60)) v8.heap.size _ _ AA8 nn8 cc8 BB8 mm8 dd8) := Lib.hid ⟨Blk.new v8 60 [.slice AA8 nn8 cc8, .slice BB8 mm8 dd8], Kq8.out.still ((Turn.refl _ _).alloc _), Pq8.out.still ((Turn.refl _ _).alloc _), Cq8.out⟩
      clear x168z y169z x170z y171z p172z q173z x174z y175z p176z q177z x178z y179z x180z y181z x182z y183z
      obtain ⟨x190z, y191z⟩ := cells2b16 R188z.out.b
      obtain ⟨x192z, y193z⟩ := cells2b16 R189z.out.b
      obtain ⟨p194z, q195z⟩ := free2_16 R189z.out.b
      go_wp2_with fail
      refine (R189z.out.key kk _ F2.out).mono ?_
      rintro e v9 ⟨AA9, nn9, cc9, BB9, mm9, dd9, rfl, hk9, hp9, hc9, ht9⟩
      simp only at hk9 hp9 ⊢
      have Kq9 := Lib.hid hk9
      have Pq9 := Lib.hid hp9
      have Cq9 := Lib.hid hc9
      have Hq9 := Lib.hid ht9
      clear hk9 hp9 hc9 ht9
      have T196z := Lib.hid (T187z.out.trans Hq9.out)
      have R197z := Lib.hid (R188z.out.still Hq9.out)
      have R198z := Lib.hid (R189z.out.still Hq9.out)
      obtain ⟨pr9a, pr9b⟩ := cells2b16 R198z.out.b
      obtain ⟨pf9a, pf9b⟩ := free2_16 R198z.out.b
      have R199z := Lib.hid (R197z.out.other R198z.out.b (by have := Z9z.out; have := Z10z.out; have := Z11z.out; have := Z53z.out; have := Z54z.out; have := Z55z.out; have := Z56z.out; have := Z110z.out; have := Z111z.out; have := Z112z.out; have := Z113z.out; have := Z114z.out; have := Z186z.out; have := HZ.out; omega) (.slice AA9 nn9 cc9) (.slice BB9 mm9 dd9))
      have S200z := Lib.hid (put2_16 R198z.out.b (.slice AA9 nn9 cc9) (.slice BB9 mm9 dd9)).2
      have T201z := Lib.hid (T196z.out.trans_new S200z.out (fun k hk e => by have := Z9z.out; have := Z10z.out; have := Z11z.out; have := Z53z.out; have := Z54z.out; have := Z55z.out; have := Z56z.out; have := Z110z.out; have := Z111z.out; have := Z112z.out; have := Z113z.out; have := Z114z.out; have := Z186z.out; have := HZ.out; have := T0.out.size; omega))
      have R202z := Lib.hid (R198z.out.put Kq9.out Pq9.out Cq9.out)
      clear x190z y191z x192z y193z p194z q195z
      obtain ⟨x203z, y204z⟩ := cells2b16 R199z.out.b
      obtain ⟨x205z, y206z⟩ := cells2b16 R202z.out.b
      obtain ⟨p207z, q208z⟩ := free2_16 R202z.out.b
      go_wp2_with fail
      refine (R199z.out.key kk _ F3.out).mono ?_
      rintro e v10 ⟨AA10, nn10, cc10, BB10, mm10, dd10, rfl, hk10, hp10, hc10, ht10⟩
      simp only at hk10 hp10 ⊢
      have Kq10 := Lib.hid hk10
      have Pq10 := Lib.hid hp10
      have Cq10 := Lib.hid hc10
      have Hq10 := Lib.hid ht10
      clear hk10 hp10 hc10 ht10
      have T209z := Lib.hid (T201z.out.trans Hq10.out)
      have R210z := Lib.hid (R199z.out.still Hq10.out)
      have R211z := Lib.hid (R202z.out.still Hq10.out)
      have Z212z : Hid (w.heap.size < v10.heap.size) := Lib.hid R210z.out.b.lt
      have Z213z : Hid (v8.heap.size < v10.heap.size) := Lib.hid R211z.out.b.lt
      have T214z := Lib.hid (T209z.out.trans ((Turn.refl (fun _ => False) v10).alloc (.cells #[.slice AA10 nn10 cc10, .slice BB10 mm10 dd10] 60)))
      have R215z := Lib.hid (R210z.out.still ((Turn.refl (fun _ => False) v10).alloc (.cells #[.slice AA10 nn10 cc10, .slice BB10 mm10 dd10] 60)))
      have R216z := Lib.hid (R211z.out.still ((Turn.refl (fun _ => False) v10).alloc (.cells #[.slice AA10 nn10 cc10, .slice BB10 mm10 dd10] 60)))
      have R217z : Hid (Rv16 (v10.alloc (.cells #[.slice AA10 nn10 cc10, .slice BB10 mm10 dd10] 60)) v10.heap.size _ _ AA10 nn10 cc10 BB10 mm10 dd10) := Lib.hid ⟨Blk.new v10 60 [.slice AA10 nn10 cc10, .slice BB10 mm10 dd10], Kq10.out.still ((Turn.refl _ _).alloc _), Pq10.out.still ((Turn.refl _ _).alloc _), Cq10.out⟩
      clear x203z y204z x205z y206z p207z q208z
      obtain ⟨x218z, y219z⟩ := cells2b16 R215z.out.b
      obtain ⟨x220z, y221z⟩ := cells2b16 R216z.out.b
      obtain ⟨p222z, q223z⟩ := free2_16 R216z.out.b
      obtain ⟨x224z, y225z⟩ := cells2b16 R217z.out.b
      obtain ⟨p226z, q227z⟩ := free2_16 R217z.out.b
      go_wp2_with fail
      refine (R217z.out.key kj _ F4.out).mono ?_
      rintro e v11 ⟨AA11, nn11, cc11, BB11, mm11, dd11, rfl, hk11, hp11, hc11, ht11⟩
      simp only at hk11 hp11 ⊢
      have Kq11 := Lib.hid hk11
      have Pq11 := Lib.hid hp11
      have Cq11 := Lib.hid hc11
      have Hq11 := Lib.hid ht11
      clear hk11 hp11 hc11 ht11
      have T228z := Lib.hid (T214z.out.trans Hq11.out)
      have R229z := Lib.hid (R215z.out.still Hq11.out)
      have R230z := Lib.hid (R216z.out.still Hq11.out)
      have R231z := Lib.hid (R217z.out.still Hq11.out)
      obtain ⟨pr11a, pr11b⟩ := cells2b16 R231z.out.b
      obtain ⟨pf11a, pf11b⟩ := free2_16 R231z.out.b
      have R232z := Lib.hid (R229z.out.other R231z.out.b (by have := Z9z.out; have := Z10z.out; have := Z11z.out; have := Z53z.out; have := Z54z.out; have := Z55z.out; have := Z56z.out; have := Z110z.out; have := Z111z.out; have := Z112z.out; have := Z113z.out; have := Z114z.out; have := Z186z.out; have := Z212z.out; have := Z213z.out; have := HZ.out; omega) (.slice AA11 nn11 cc11) (.slice BB11 mm11 dd11))
      have R233z := Lib.hid (R230z.out.other R231z.out.b (by have := Z9z.out; have := Z10z.out; have := Z11z.out; have := Z53z.out; have := Z54z.out; have := Z55z.out; have := Z56z.out; have := Z110z.out; have := Z111z.out; have := Z112z.out; have := Z113z.out; have := Z114z.out; have := Z186z.out; have := Z212z.out; have := Z213z.out; have := HZ.out; omega) (.slice AA11 nn11 cc11) (.slice BB11 mm11 dd11))
      have S234z := Lib.hid (put2_16 R231z.out.b (.slice AA11 nn11 cc11) (.slice BB11 mm11 dd11)).2
      have T235z := Lib.hid (T228z.out.trans_new S234z.out (fun k hk e => by have := Z9z.out; have := Z10z.out; have := Z11z.out; have := Z53z.out; have := Z54z.out; have := Z55z.out; have := Z56z.out; have := Z110z.out; have := Z111z.out; have := Z112z.out; have := Z113z.out; have := Z114z.out; have := Z186z.out; have := Z212z.out; have := Z213z.out; have := HZ.out; have := T0.out.size; omega))
      have R236z := Lib.hid (R231z.out.put Kq11.out Pq11.out Cq11.out)
      clear x218z y219z x220z y221z p222z q223z x224z y225z p226z q227z
      obtain ⟨x237z, y238z⟩ := cells2b16 R232z.out.b
      obtain ⟨x239z, y240z⟩ := cells2b16 R233z.out.b
      obtain ⟨p241z, q242z⟩ := free2_16 R233z.out.b
      obtain ⟨x243z, y244z⟩ := cells2b16 R236z.out.b
      obtain ⟨p245z, q246z⟩ := free2_16 R236z.out.b
      go_wp2_with fail
      refine (R233z.out.key kj _ F5.out).mono ?_
      rintro e v12 ⟨AA12, nn12, cc12, BB12, mm12, dd12, rfl, hk12, hp12, hc12, ht12⟩
      simp only at hk12 hp12 ⊢
      have Kq12 := Lib.hid hk12
      have Pq12 := Lib.hid hp12
      have Cq12 := Lib.hid hc12
      have Hq12 := Lib.hid ht12
      clear hk12 hp12 hc12 ht12
      have T247z := Lib.hid (T235z.out.trans Hq12.out)
      have R248z := Lib.hid (R232z.out.still Hq12.out)
      have R249z := Lib.hid (R233z.out.still Hq12.out)
      have R250z := Lib.hid (R236z.out.still Hq12.out)
      have Z251z : Hid (w.heap.size < v12.heap.size) := Lib.hid R248z.out.b.lt
      have Z252z : Hid (v8.heap.size < v12.heap.size) := Lib.hid R249z.out.b.lt
      have Z253z : Hid (v10.heap.size < v12.heap.size) := Lib.hid R250z.out.b.lt
      have T254z := Lib.hid (T247z.out.trans ((Turn.refl (fun _ => False) v12).alloc (.cells #[.slice AA12 nn12 cc12, .slice BB12 mm12 dd12] 60)))
      have R255z := Lib.hid (R248z.out.still ((Turn.refl (fun _ => False) v12).alloc (.cells #[.slice AA12 nn12 cc12, .slice BB12 mm12 dd12] 60)))
      have R256z := Lib.hid (R249z.out.still ((Turn.refl (fun _ => False) v12).alloc (.cells #[.slice AA12 nn12 cc12, .slice BB12 mm12 dd12] 60)))
      have R257z := Lib.hid (R250z.out.still ((Turn.refl (fun _ => False) v12).alloc (.cells #[.slice AA12 nn12 cc12, .slice BB12 mm12 dd12] 60)))
      have R258z : Hid (Rv16 (v12.alloc (.cells #[.slice AA12 nn12 cc12, .slice BB12 mm12 dd12] 60)) v12.heap.size _ _ AA12 nn12 cc12 BB12 mm12 dd12) := Lib.hid ⟨Blk.new v12 60 [.slice AA12 nn12 cc12, .slice BB12 mm12 dd12], Kq12.out.still ((Turn.refl _ _).alloc _), Pq12.out.still ((Turn.refl _ _).alloc _), Cq12.out⟩
      clear x237z y238z x239z y240z p241z q242z x243z y244z p245z q246z
      obtain ⟨x259z, y260z⟩ := cells2b16 R255z.out.b
      obtain ⟨x261z, y262z⟩ := cells2b16 R256z.out.b
      obtain ⟨p263z, q264z⟩ := free2_16 R256z.out.b
      obtain ⟨x265z, y266z⟩ := cells2b16 R257z.out.b
      obtain ⟨p267z, q268z⟩ := free2_16 R257z.out.b
      obtain ⟨x269z, y270z⟩ := cells2b16 R258z.out.b
      go_wp2_with fail
      refine (R256z.out.same R257z.out HLK.out).mono ?_
      rintro e v13 ⟨rfl, ht13⟩
      have Hq13 := Lib.hid ht13
      clear ht13
      have T271z := Lib.hid (T254z.out.trans Hq13.out)
      have R272z := Lib.hid (R255z.out.still Hq13.out)
      have R273z := Lib.hid (R256z.out.still Hq13.out)
      have R274z := Lib.hid (R257z.out.still Hq13.out)
      have R275z := Lib.hid (R258z.out.still Hq13.out)
      clear x259z y260z x261z y262z p263z q264z x265z y266z p267z q268z x269z y270z
      obtain ⟨x276z, y277z⟩ := cells2b16 R272z.out.b
      obtain ⟨x278z, y279z⟩ := cells2b16 R273z.out.b
      obtain ⟨p280z, q281z⟩ := free2_16 R273z.out.b
      obtain ⟨x282z, y283z⟩ := cells2b16 R274z.out.b
      obtain ⟨p284z, q285z⟩ := free2_16 R274z.out.b
      obtain ⟨x286z, y287z⟩ := cells2b16 R275z.out.b
      go_wp2_with fail
      refine (R273z.out.same R275z.out HLK.out).mono ?_
      rintro e v14 ⟨rfl, ht14⟩
      have Hq14 := Lib.hid ht14
      clear ht14
      have T288z := Lib.hid (T271z.out.trans Hq14.out)
      have R289z := Lib.hid (R272z.out.still Hq14.out)
      have R290z := Lib.hid (R273z.out.still Hq14.out)
      have R291z := Lib.hid (R274z.out.still Hq14.out)
      have R292z := Lib.hid (R275z.out.still Hq14.out)
      clear x276z y277z x278z y279z p280z q281z x282z y283z p284z q285z x286z y287z
      obtain ⟨x293z, y294z⟩ := cells2b16 R289z.out.b
      obtain ⟨x295z, y296z⟩ := cells2b16 R290z.out.b
      obtain ⟨p297z, q298z⟩ := free2_16 R290z.out.b
      obtain ⟨x299z, y300z⟩ := cells2b16 R291z.out.b
      obtain ⟨p301z, q302z⟩ := free2_16 R291z.out.b
      obtain ⟨x303z, y304z⟩ := cells2b16 R292z.out.b
      go_wp2_with fail
      refine (lives_16 _).mono ?_
      rintro e w99 ⟨rfl, t99⟩
      have TE := Lib.hid (T288z.out.trans t99)
      clear t99
      go_wp2_with fail
      go_ret
      exact ⟨rfl, TE.out⟩
theorem readsOrder_walk (L : List ByteArray) (S : List Pq2) (A1 : Option Addr) (n1 c1 : Nat) (A2 : Option Addr) (n2 c2 : Nat) (a b : Pq2) (kj kk : ByteArray) (w : World) (hk : Kx w (.slice A1 n1 c1) L) (hs : Px w (.slice A2 n2 c2) S) (hcap : n2 ≤ c2) (_ : kj.size ≤ 140737488351232) (_ : kk.size ≤ 140737488351232) :
    Calls Try.prog 10 #[.agg #[.slice A1 n1 c1, .slice A2 n2 c2], .agg #[.string a.k, .string a.v], .agg #[.string b.k, .string b.v], .string kj, .string kk] w fun r w' => r = .returned (.bool true) ∧ Below w.heap.size w w' :=
  (readsOrder_of L S a b kj kk A1 n1 c1 A2 n2 c2 w hk hs hcap).mono fun e w' ⟨he, ht⟩ => ⟨he, ht.below (Nat.le_refl _) (fun _ h => h.elim)⟩
end Go.Proofs.Ytaebhbdmmnpgeaa
