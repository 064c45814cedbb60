/- Causal contexts: what PassOf computes. No condition. -/
import Derived.Test.YtiaoifodaoifjaaDoorMsgBytesMath
import Derived.Test.YtiaoifodaoifjaaDoorSealMath
set_option linter.unusedSimpArgs false
set_option linter.unusedVariables false
namespace Go.Proofs.YtiaoifodaoifjaaDoor.Sb
open Go.RowKit Go.Proofs.YtiaoifodaoifjaaDoor.Mk Go.Proofs.YtiaoifodaoifjaaDoor.Nu Go.Proofs.YtiaoifodaoifjaaDoor.Se

/-- the bytes that a context seals -/
def passBody (y : ByteArray) (l : List (Int × Int)) : ByteArray := putText y ++ bytesV l
def passOk (y : ByteArray) (l : List (Int × Int)) : Bool := Nm.nameB y && rightB l
/-- what PassOf returns -/
def passV (y : ByteArray) (l : List (Int × Int)) : ByteArray := if passOk y l = true then sealed (passBody y l) else ⟨#[]⟩
def passBB (y : ByteArray) (l : List (Int × Int)) : List UInt8 := (enc (fold y.size) ++ y.data.toList) ++ seenB l
theorem passOk_is {y : ByteArray} {l : List (Int × Int)} (h : passOk y l = true) : Nm.nameB y = true ∧ rightB l = true := by
  unfold passOk at h
  simpa [Bool.and_eq_true] using h
theorem passBody_is {y : ByteArray} {l : List (Int × Int)} (hk : y.size ≤ 8000) (h : rightB l = true) : passBody y l = ⟨(passBB y l).toArray⟩ := by
  apply ext_list
  unfold passBody passBB
  rw [putText_short _ (by omega), bytesV_yes h]
  simp [ByteArray.data_append, numS, List.append_assoc]
theorem passB_len {l : List (Int × Int)} (h : rightB l = true) : (seenB l).length ≤ 110 := by
  have h1 := flat_length_le l (right_dot h)
  have h2 := right_len h
  have h3 := enc_len10 (fold (l.length : Int)) (fold_lt _ (by omega))
  unfold seenB
  rw [List.length_append]
  omega
theorem passBody_size {y : ByteArray} {l : List (Int × Int)} (hk : Nm.nameB y = true) (h : rightB l = true) : (passBody y l).size ≤ 200 := by
  have h1 := putText_name (name_size hk).2
  have h2 := passB_len h
  unfold passBody
  rw [ByteArray.size_append, bytesV_yes h]
  have : (ByteArray.mk (seenB l).toArray).size = (seenB l).length := by simp [ByteArray.size]
  omega
end Go.Proofs.YtiaoifodaoifjaaDoor.Sb
