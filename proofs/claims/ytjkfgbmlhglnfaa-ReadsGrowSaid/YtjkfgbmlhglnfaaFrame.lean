/- How the arguments of a statement are opened: a slice of integers that came in, as the walks of this folder ask for it. -/
import Derived.Test.YtjkfgbmlhglnfaaRows
import Derived.Test.YtjkfgbmlhglnfaaBase
import Derived.ProofKit
import Derived.OpenShut
import Derived.ShutString
import Derived.ChangeOld
import Derived.JoinedCond
import Derived.SizedLaws
namespace Go.Proofs.Ytjkfgbmlhglnfaa
open Go.ChangeShapes Go.WideShapes Go.ChangeAt Go.RowKit
set_option linter.unusedVariables false

theorem own_ : ownKnob Try.prog.godebug = none := by kernel_rfl
theorem laidOut_ : laidOutB Try.prog = true := by kernel_rfl

/-- A value that is a slice of these integers, all below block B. -/
def Ints (k : IntKind) (w : World) (B : Nat) (v : Value) (zs : List Int) : Prop := ∃ A cap, v = .slice A zs.length cap ∧
  (0 < zs.length → ∃ ad : Addr, A = some ad ∧ ad.spot = none ∧ ad.block < B ∧ ∀ j z, zs[j]? = some z → w.cell? (ad.add j) = some (.int k z)) ∧
  cap ≤ maxLen ∧ (A = none → cap = 0 ∧ zs = []) ∧ zs.length ≤ cap ∧ ∀ z ∈ zs, (Lit.int k z).wf = true

theorem lits_len {H : Type} (k : IntKind) (zs : List Int) : (lits (H := H) k zs).length = zs.length := by simp [lits]

/-- The reading of a slice of integers: what the walk is told, and how long it is. -/
theorem open_slice_ {H : Type} {P : Program} {enc : TypeId × Value → H} {w : World} {base fuel : Nat} {t e : TypeId} {k : IntKind} {A : Option Addr} {len cap : Nat} {d : DataW H} {p : List MemPlace}
    (ht : P.underlying t = some (.slice e)) (he : P.underlying e = some (.int k)) (hc : P.cellsOf e = 1)
    (h : DataW.trod enc P w base (fun _ => true) true fuel t [.slice A len cap] = some (d, p)) :
    ∃ zs, Ints k w w.heap.size (.slice A len cap) zs ∧ (d = .nil ∧ zs = [] ∨ ∃ rest, d = .slice (lits k zs) rest) := by
  rcases open_ints ht he hc h with ⟨hcs, hx⟩ | ⟨x, l, c, zs, hcs, _, hl, hm, hz, hx, hcell, hwz⟩
  · simp at hcs
    obtain ⟨rfl, rfl, rfl⟩ := hcs
    exact ⟨[], ⟨none, 0, rfl, (fun h => by simp at h), by simp [maxLen], (fun _ => ⟨rfl, rfl⟩), Nat.le_refl _, by simp⟩, .inl ⟨congrArg Prod.fst hx, rfl⟩⟩
  · simp at hcs
    obtain ⟨rfl, rfl, rfl⟩ := hcs
    have hz' : zs.length = cap := by simpa using hz
    have hlen : (zs.take len).length = len := by simp; omega
    refine ⟨zs.take len, ⟨some x, cap, by rw [hlen], fun hp => ?_, hm, (fun h => by cases h), by omega, fun z hz => hwz z (List.mem_of_mem_take hz)⟩, .inr ⟨_, congrArg Prod.fst hx⟩⟩
    have h0 := hcell 0 (by omega)
    have hsp : x.spot = none := by
      have := World.cell?_spot h0
      rw [show x.add 0 = x from by simp [Addr.add]] at this
      exact this
    refine ⟨x, rfl, hsp, ?_, fun j z hj => ?_⟩
    · have := cell_lt h0
      rwa [block_add] at this
    · rw [List.getElem?_take] at hj
      split at hj
      · have hjl : j < zs.length := by omega
        rw [hcell j hjl]
        rw [List.getElem?_eq_getElem hjl] at hj
        cases hj
        simp [List.getElem?_eq_getElem hjl]
      · cases hj

/-- Bytes as integers. -/
def bytesOfInts (zs : List Int) : List UInt8 := zs.map fun z => UInt8.ofNat z.toNat
theorem len_bytesOfInts (zs : List Int) : (bytesOfInts zs).length = zs.length := by simp [bytesOfInts]
theorem sl_of_ints {w : World} {B : Nat} {v : Value} {zs : List Int} (h : Ints .u8 w B v zs) :
    ∃ A cap, v = .slice A (bytesOfInts zs).length cap ∧ Rd w B A (bytesOfInts zs) ∧ cap ≤ maxLen ∧ (A = none → cap = 0 ∧ bytesOfInts zs = []) ∧ (bytesOfInts zs).length ≤ cap := by
  obtain ⟨A, cap, rfl, hr, hm, hn, hl, hw⟩ := h
  rw [len_bytesOfInts]
  refine ⟨A, cap, rfl, fun hp => ?_, hm, fun h => ⟨(hn h).1, by rw [(hn h).2]; rfl⟩, hl⟩
  rw [len_bytesOfInts] at hp
  obtain ⟨ad, e, hs, hb, hc⟩ := hr hp
  refine ⟨ad, e, hs, hb, fun j c hj => ?_⟩
  unfold bytesOfInts at hj
  rw [List.getElem?_map] at hj
  cases hz : zs[j]? with
  | none => rw [hz] at hj; cases hj
  | some z =>
    rw [hz] at hj
    cases hj
    rw [hc j z hz]
    have hwz := hw z (List.mem_of_getElem? hz)
    have hx : 0 ≤ z ∧ z ≤ 255 := by simpa [Lit.wf, IntKind.min, IntKind.max, IntKind.signed, IntKind.bits] using hwz
    unfold u8v
    congr 2
    rw [UInt8.toNat_ofNat']
    omega

/-! What the bound of the second form gives. -/
theorem bulk_one {H : Type} (d : DataW H) : 1 ≤ Rows.uptoBulk d := by
  cases d with
  | lit l => cases l <;> simp [Rows.uptoBulk]
  | _ => simp [Rows.uptoBulk]
theorem bulk_part {H : Type} {d : DataW H} {l : List (DataW H)} (h : d ∈ l) : Rows.uptoBulk d ≤ Rows.uptoBulkAll l := by
  induction l with
  | nil => cases h
  | cons x r ih =>
    simp only [Rows.uptoBulkAll]
    rcases List.mem_cons.1 h with e | e
    · subst e; omega
    · have := ih e; omega
theorem bulk_len {H : Type} (l : List (DataW H)) : l.length ≤ Rows.uptoBulkAll l := by
  induction l with
  | nil => simp [Rows.uptoBulkAll]
  | cons x r ih => have := bulk_one x; simp only [Rows.uptoBulkAll, List.length_cons]; omega
theorem bulk_ints {H : Type} {d : DataW H} {k : IntKind} {zs : List Int} {l : List (DataW H)} (hk : Rows.uptoSmall H l = true) (hd : d ∈ l) (h : d = .nil ∧ zs = [] ∨ ∃ rest, d = .slice (lits k zs) rest) : zs.length ≤ 1048576 := by
  have h1 : Rows.uptoBulkAll l ≤ 1048576 := of_decide_eq_true hk
  have h2 := bulk_part hd
  rcases h with ⟨_, rfl⟩ | ⟨rest, rfl⟩
  · simp
  · have h3 := bulk_len (lits (H := H) k zs)
    rw [lits_len] at h3
    simp only [Rows.uptoBulk] at h2
    omega
theorem bulk_string {H : Type} {s : ByteArray} {l : List (DataW H)} (hk : Rows.uptoSmall H l = true) (hd : DataW.lit (H := H) (.string s.data.toList) ∈ l) : s.size ≤ 1048576 := by
  have h1 : Rows.uptoBulkAll l ≤ 1048576 := of_decide_eq_true hk
  have h2 := bulk_part hd
  simp only [Rows.uptoBulk] at h2
  have e : s.data.toList.length = s.size := by simp
  omega
/-! What the form's own reach gives. -/
theorem reach_ints {H : Type} {P : Program} {ts : List TypeId} {ds : List (DataW H)} (h : (DataW.weightsEach P ts ds).all (· ≤ reachBytes) = true) {j : Nat} {t e : TypeId} {d : DataW H} {k : IntKind} {zs : List Int} (ht : ts[j]? = some t) (hd : ds[j]? = some d)
    (hu : P.underlying t = some (.slice e)) (hz : d = .nil ∧ zs = [] ∨ ∃ rest, d = .slice (lits k zs) rest) : zs.length * P.bytesOf e ≤ 140737488351232 := by
  rcases hz with ⟨_, rfl⟩ | ⟨rest, rfl⟩
  · simp
  · have := sized_slice h ht hd hu
    rw [lits_len] at this
    simp only [reachBytes] at this
    exact Nat.le_trans (Nat.mul_le_mul_right _ (Nat.le_add_right _ _)) this
theorem reach_string {H : Type} {P : Program} {ts : List TypeId} {ds : List (DataW H)} (h : (DataW.weightsEach P ts ds).all (· ≤ reachBytes) = true) {j : Nat} {t : TypeId} {s : ByteArray} (ht : ts[j]? = some t) (hd : ds[j]? = some (.lit (.string s.data.toList))) : s.size ≤ 140737488351232 := by
  have := sized_string h ht hd
  have e : s.data.toList.length = s.size := by simp
  simp only [reachBytes] at this
  omega
/-! What the form says of an integer. -/
theorem wf_i64 {n : Int} (h : (Lit.int .i64 n).wf = true) : -9223372036854775808 ≤ n ∧ n ≤ 9223372036854775807 := by
  simpa [Lit.wf, IntKind.min, IntKind.max, IntKind.signed, IntKind.bits] using h
theorem wf_u32 {n : Int} (h : (Lit.int .u32 n).wf = true) : 0 ≤ n ∧ n ≤ 4294967295 := by
  simpa [Lit.wf, IntKind.min, IntKind.max, IntKind.signed, IntKind.bits] using h
end Go.Proofs.Ytjkfgbmlhglnfaa
