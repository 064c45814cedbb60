/- The encoding of a version vector as bytes. No condition. -/
import Derived.Test.YtiaoifodaoifjaaDoorNumS
import Derived.Test.YtiaoifodaoifjaaDoorMarkMath
set_option linter.unusedSimpArgs false
set_option linter.unusedVariables false
namespace Go.Proofs.YtiaoifodaoifjaaDoor.Mk
open Nu

/-- the bytes of a mark, of a version vector -/
def markB (m : Int × Int) : List UInt8 := enc (fold m.1) ++ enc (fold m.2)
def seenB (l : List (Int × Int)) : List UInt8 := enc (fold l.length) ++ l.flatMap markB
/-- what SeenBytes returns -/
def bytesV (l : List (Int × Int)) : ByteArray := if rightB l = true then ⟨(seenB l).toArray⟩ else ⟨#[]⟩
def markS (m : Int × Int) : ByteArray := numS m.1 ++ numS m.2
theorem markS_data (m : Int × Int) : (markS m).data.toList = markB m := by unfold markS markB; rw [ByteArray.data_append]; simp [numS]
theorem markS_size (m : Int × Int) (h : dotB m = true) : (markS m).size ≤ 20 := by
  have hm := (dotB_iff m).1 h
  have h1 := numS_size_of m.1 (by omega)
  have h2 := numS_size_of m.2 (by omega)
  unfold markS; rw [ByteArray.size_append]; omega
theorem markB_length (m : Int × Int) (h : dotB m = true) : (markB m).length ≤ 20 := by
  have := markS_size m h
  rw [← markS_data, Array.length_toList]; exact this
theorem flat_length_le : ∀ (l : List (Int × Int)), (∀ m ∈ l, dotB m = true) → (l.flatMap markB).length ≤ 20 * l.length
  | [], _ => by simp
  | x :: r, h => by
    have h1 := markB_length x (h x (by simp))
    have h2 := flat_length_le r (fun m hm => h m (by simp [hm]))
    rw [List.flatMap_cons, List.length_append, List.length_cons]; omega
theorem bytesV_no {l : List (Int × Int)} (h : rightB l = false) : bytesV l = ⟨#[]⟩ := if_neg (by rw [h]; simp)
theorem bytesV_yes {l : List (Int × Int)} (h : rightB l = true) : bytesV l = ⟨(seenB l).toArray⟩ := if_pos h
/-- the bytes of the first k marks, as the model joins them -/
def upTo (l : List (Int × Int)) (k : Nat) (t : ByteArray) : Prop := t.data.toList = enc (fold l.length) ++ (l.take k).flatMap markB ∧ t.size ≤ 10 + 20 * k
theorem upTo_zero (l : List (Int × Int)) (h : l.length ≤ 5) : upTo l 0 (numS l.length) := ⟨by simp [numS], by have := numS_size l.length (by omega); omega⟩
theorem upTo_next {l : List (Int × Int)} {k : Nat} {t : ByteArray} (h : upTo l k t) (hk : k < l.length) (hd : dotB l[k] = true) : upTo l (k + 1) (t ++ numS l[k].1 ++ numS l[k].2) := by
  have hm := (dotB_iff _).1 hd
  have h1 := numS_size_of l[k].1 (by omega)
  have h2 := numS_size_of l[k].2 (by omega)
  have h3 := h.2
  refine ⟨?_, by rw [ByteArray.size_append, ByteArray.size_append]; omega⟩
  rw [ByteArray.data_append, ByteArray.data_append, List.take_succ_eq_append_getElem hk, List.flatMap_append]
  simp only [Array.toList_append, h.1, numS_data, List.flatMap_cons, List.flatMap_nil, List.append_nil, markB, List.append_assoc]
theorem upTo_end {l : List (Int × Int)} {k : Nat} {t : ByteArray} (h : upTo l k t) (hk : l.length ≤ k) (hr : rightB l = true) : t = bytesV l := by
  rw [bytesV_yes hr]
  have h1 := h.1
  rw [List.take_of_length_le hk] at h1
  apply ByteArray.ext
  apply Array.ext'
  rw [h1]; rfl
end Go.Proofs.YtiaoifodaoifjaaDoor.Mk
