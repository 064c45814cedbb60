/- The encoding of a Set as bytes. No condition. -/
import Derived.Test.YtiaoifodaoifjaaDoorBytesMath
import Derived.Test.YtiaoifodaoifjaaDoorSibMath
import Derived.Test.YtiaoifodaoifjaaDoorText
set_option linter.unusedSimpArgs false
set_option linter.unusedVariables false
namespace Go.Proofs.YtiaoifodaoifjaaDoor.Sb
open Go.Proofs.YtiaoifodaoifjaaDoor.Mk Go.Proofs.YtiaoifodaoifjaaDoor.Nu

def goneI (g : Bool) : Int := if g = true then 1 else 0
/-- the bytes of a Sib, of a Set -/
def sibS (x : Sib) : ByteArray := markS x.1 ++ numS (goneI x.2.1) ++ putText x.2.2
def sibB (x : Sib) : List UInt8 := (sibS x).data.toList
def setBB (l : List (Int × Int)) (s : List Sib) : List UInt8 := seenB l ++ (enc (fold s.length) ++ s.flatMap sibB)
/-- what SetBytes returns -/
def setBytes (l : List (Int × Int)) (s : List Sib) : ByteArray := if setB l s = true then ⟨(setBB l s).toArray⟩ else ⟨#[]⟩
theorem setBytes_no {l : List (Int × Int)} {s : List Sib} (h : setB l s = false) : setBytes l s = ⟨#[]⟩ := if_neg (by rw [h]; simp)
theorem setBytes_yes {l : List (Int × Int)} {s : List Sib} (h : setB l s = true) : setBytes l s = ⟨(setBB l s).toArray⟩ := if_pos h
theorem ok_dot {l : List (Int × Int)} {x : Sib} (h : sibOk l x = true) : dotB x.1 = true ∧ x.2.2.size ≤ 16 := by
  unfold sibOk hasB contB at h
  simp at h
  exact ⟨h.1.1.2, h.2.1⟩
theorem goneI_size (g : Bool) : (numS (goneI g)).size ≤ 10 := by
  cases g
  · exact numS_size_of _ (by unfold goneI; simp)
  · exact numS_size_of _ (by unfold goneI; simp)
theorem putText_small {d : ByteArray} (h : d.size ≤ 16) : putText d = numS d.size ++ d := putText_short d (by omega)
theorem putText_size {d : ByteArray} (h : d.size ≤ 16) : (putText d).size ≤ 26 := by
  rw [putText_small h, ByteArray.size_append]
  have := numS_size d.size (by omega)
  omega
theorem sibS_size {l : List (Int × Int)} {x : Sib} (h : sibOk l x = true) : (sibS x).size ≤ 56 := by
  obtain ⟨h1, h2⟩ := ok_dot h
  have a := markS_size x.1 h1
  have b := goneI_size x.2.1
  have c := putText_size h2
  unfold sibS; rw [ByteArray.size_append, ByteArray.size_append]; omega
theorem sibB_len {l : List (Int × Int)} {x : Sib} (h : sibOk l x = true) : (sibB x).length ≤ 56 := by
  unfold sibB; rw [Array.length_toList]; exact sibS_size h
theorem flatS_len {l : List (Int × Int)} : ∀ (s : List Sib), (∀ x ∈ s, sibOk l x = true) → (s.flatMap sibB).length ≤ 56 * s.length
  | [], _ => by simp
  | x :: r, h => by
    have h1 := sibB_len (h x (by simp))
    have h2 := flatS_len r (fun m hm => h m (by simp [hm]))
    rw [List.flatMap_cons, List.length_append, List.length_cons]; omega
theorem seenB_len {l : List (Int × Int)} (h : rightB l = true) : (seenB l).length ≤ 110 := by
  have h5 := right_len h
  have h2 := enc_len10 (fold l.length) (fold_lt _ (by omega))
  have h3 := flat_length_le l (right_dot h)
  unfold seenB; rw [List.length_append]; omega
theorem setOk_of {l : List (Int × Int)} {s : List Sib} (h : setB l s = true) : SetOk l s := of_decide_eq_true h
theorem setBB_len {l : List (Int × Int)} {s : List Sib} (h : setB l s = true) : (setBB l s).length ≤ 600 := by
  obtain ⟨h1, h2, h3, _⟩ := setOk_of h
  have a := seenB_len h1
  have b := enc_len10 (fold s.length) (fold_lt _ (by omega))
  have c := flatS_len s h3
  unfold setBB; rw [List.length_append, List.length_append]; omega
/-- the parts that are joined -/
def partsS (l : List (Int × Int)) (s : List Sib) (k : Nat) : List ByteArray := bytesV l :: numS s.length :: (s.take k).map sibS
theorem partsS_next (l : List (Int × Int)) (s : List Sib) (k : Nat) (h : k < s.length) : partsS l s (k + 1) = partsS l s k ++ [sibS s[k]] := by
  unfold partsS; rw [List.take_succ_eq_append_getElem h, List.map_append]; rfl
theorem cat_partsS {l : List (Int × Int)} (hr : rightB l = true) (s : List Sib) (k : Nat) : cat (partsS l s k) = seenB l ++ (enc (fold s.length) ++ (s.take k).flatMap sibB) := by
  unfold partsS cat
  rw [List.map_cons, List.flatten_cons, List.map_cons, List.flatten_cons, numS_data, List.map_map, bytesV_yes hr]
  rw [List.flatMap_def]
  rfl
/-- the bytes of the first k Sibs, as the model joins them -/
def upToS (l : List (Int × Int)) (s : List Sib) (k : Nat) (t : ByteArray) : Prop := t.data.toList = seenB l ++ (enc (fold s.length) ++ (s.take k).flatMap sibB) ∧ t.size ≤ 200 + 56 * k
theorem upToS_zero {l : List (Int × Int)} {s : List Sib} (hr : rightB l = true) (h : s.length ≤ 8) : upToS l s 0 (bytesV l ++ numS s.length) := by
  refine ⟨?_, ?_⟩
  · rw [ByteArray.data_append, bytesV_yes hr]; simp [numS]
  · have a := seenB_len hr
    have b := numS_size s.length (by omega)
    rw [ByteArray.size_append, bytesV_yes hr]
    have : (ByteArray.mk (seenB l).toArray).size = (seenB l).length := by simp [ByteArray.size]
    omega
theorem upToS_next {l : List (Int × Int)} {s : List Sib} {k : Nat} {t : ByteArray} (h : upToS l s k t) (hk : k < s.length) (ho : sibOk l s[k] = true) :
    upToS l s (k + 1) (t ++ numS s[k].1.1 ++ numS s[k].1.2 ++ numS (goneI s[k].2.1) ++ putText s[k].2.2) := by
  have hs := sibS_size ho
  have h3 := h.2
  refine ⟨?_, ?_⟩
  · rw [List.take_succ_eq_append_getElem hk, List.flatMap_append]
    simp only [ByteArray.data_append, Array.toList_append, h.1, List.flatMap_cons, List.flatMap_nil, List.append_nil, sibB, sibS, markS, List.append_assoc]
  · unfold sibS markS at hs
    simp only [ByteArray.size_append] at hs ⊢
    omega
theorem upToS_end {l : List (Int × Int)} {s : List Sib} {k : Nat} {t : ByteArray} (h : upToS l s k t) (hk : s.length ≤ k) (hr : setB l s = true) : t = setBytes l s := by
  rw [setBytes_yes hr]
  have h1 := h.1
  rw [List.take_of_length_le hk] at h1
  apply ByteArray.ext
  apply Array.ext'
  rw [h1]; rfl
end Go.Proofs.YtiaoifodaoifjaaDoor.Sb
