/- Bytes in memory: the values of bytes, an array of bytes, a slice of bytes that the call owns, and their conversion to a string. No condition. -/
import Derived.Test.YtiaoifodaoifjaaDoorRows
import Derived.Test.YtiaoifodaoifjaaDoorNumMath
import Derived.WalkKit
import Derived.ProofKit
import Derived.OpenShut
import Derived.ShutString
import Derived.Lib.Hide
import Derived.Deep.Light
import Derived.Laws.BitsAllLaws
import Derived.Laws.Bits128
import Derived.Laws.Bits64
import Derived.Laws.BytesArg
import Derived.Laws.IdiomStrings
import Derived.OwnWalk
import Derived.Maps.AppendAt

set_option linter.unusedSimpArgs false
set_option linter.unusedVariables false
namespace Go.Proofs.YtiaoifodaoifjaaDoor.Nu
open Go.RowKit

theorem ret_int {k : IntKind} {a b : Int} (h : a = b) : Ending.returned (.int k a) = .returned (.int k b) := by rw [h]
/-- the value of a byte in memory -/
def bv (b : UInt8) : Value := .int .u8 (b.toNat : Int)
theorem bv_of (k : Nat) (h : k < 256) : Value.int .u8 (k : Int) = bv (UInt8.ofNat k) := by unfold bv; rw [toNat_ofNat k h]
/-- block g holds the bytes l, and may be written -/
structure Arr (w : World) (g : Nat) (l : List UInt8) : Prop where
  cell : ∀ j (h : j < l.length), w.cell? ⟨g, j, none⟩ = some (bv l[j])
  free : ∀ j, w.frozen? ⟨g, j, none⟩ = false

theorem Arr.set {w : World} {g : Nat} {l : List UInt8} (h : Arr w g l) (k : Nat) (hk : k < l.length) (b : UInt8) : Arr (w.setCell ⟨g, k, none⟩ (bv b)) g (l.set k b) := by
  constructor
  · intro j hj
    have hj' : j < l.length := by simpa using hj
    by_cases e : j = k
    · subst e
      rw [World.cell?_setCell_same _ _ _ (h.cell j hj'), List.getElem_set_self]
    · rw [World.cell?_setCell_other _ _ _ _ (by intro hh; injection hh with _ h2; exact e h2.symm), h.cell j hj', List.getElem_set_ne (fun hh => e hh.symm)]
  · intro j
    rw [World.frozen?_setCell]; exact h.free j
theorem Arr.string {w : World} {g : Nat} {l : List UInt8} (h : Arr w g l) (m c : Nat) (hm : m ≤ l.length) :
    (convert 22 9 (.slice (some ⟨g, 0, none⟩) m c)).run Tryd.prog w = .ok (.string ⟨(l.take m).toArray⟩) w := by
  have hl : (l.take m).length = m := by rw [List.length_take]; omega
  have := run_convert_bytes_back (P := Tryd.prog) w 22 9 5 ⟨g, 0, none⟩ c (l.take m) Tryd.underlying22 Tryd.underlying5 Tryd.underlying9 (fun j hj => by
    have hj' : j < l.length := by rw [hl] at hj; omega
    have e : (⟨g, 0, none⟩ : Addr).add j = ⟨g, j, none⟩ := by unfold Addr.add; split <;> simp_all
    rw [e, h.cell j hj', List.getElem_take]; rfl)
  rw [hl] at this; exact this

theorem take_set {α : Type} (l : List α) (k : Nat) (hk : k < l.length) (x : α) : (l.set k x).take (k + 1) = l.take k ++ [x] := by
  rw [List.take_succ_eq_append_getElem (by simpa using hk), List.take_set, List.set_eq_of_length_le (by rw [List.length_take]; omega)]
  simp
theorem info8 : (Tryd.prog.info? 5).map (fun i => (i.zero, i.size, i.bytes)) = some (some (.int .u8 0), 1, 1) := by kernel_rfl
/-- a slice of bytes that the call owns, as a string -/
theorem own_string {w : World} {B : Nat} {v : Value} {m : Nat} {l : List UInt8} (h : w.ownsRow B 5 1 v m (l.map bv)) :
    (convert 22 9 v).run Tryd.prog w = .ok (.string ⟨l.toArray⟩) w := by
  obtain ⟨hlen, hc⟩ := h
  have hl : l.length = m := by simpa using hlen
  rcases hc with ⟨rfl, rfl⟩ | ⟨g, cap, cur, rfl, hg, hh, hn, hm, hs, ht⟩
  · have : l = [] := List.length_eq_zero_iff.1 hl
    subst this
    exact run_convert_bytes_nil w 22 5 Tryd.underlying22 Tryd.underlying5 0 0 9 Tryd.underlying9
  · subst hl
    refine run_convert_bytes_back (P := Tryd.prog) w 22 9 5 ⟨g, 0, none⟩ cap l Tryd.underlying22 Tryd.underlying5 Tryd.underlying9 (fun j hj => ?_)
    have e : (⟨g, 0, none⟩ : Addr).add j = ⟨g, j, none⟩ := by unfold Addr.add; split <;> simp_all
    have hcur : cur[j]? = some (bv l[j]) := by
      have h1 : (cur.toList.take (l.length * 1))[j]? = some (bv l[j]) := by rw [ht]; simp [hj]
      rw [List.getElem?_take_of_lt (by omega)] at h1
      simpa using h1
    rw [e]
    simp [World.cell?, hh, hcur, bv]

end Go.Proofs.YtiaoifodaoifjaaDoor.Nu
