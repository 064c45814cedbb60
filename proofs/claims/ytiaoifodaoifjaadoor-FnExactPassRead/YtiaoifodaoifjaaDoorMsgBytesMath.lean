/- The encoding of a message. No condition. -/
import Derived.Test.YtiaoifodaoifjaaDoorMsgMath
import Derived.Test.YtiaoifodaoifjaaDoorSetBytesMath
import Derived.Test.YtiaoifodaoifjaaDoorSeal
set_option linter.unusedSimpArgs false
set_option linter.unusedVariables false
namespace Go.Proofs.YtiaoifodaoifjaaDoor.Sb
open Go.Proofs.YtiaoifodaoifjaaDoor.Mk

def msgBody (kd fr tq rq : Int) (ky : ByteArray) (ow : Int) (l : List (Int × Int)) (s : List Sib) : ByteArray :=
  Nu.numS kd ++ Nu.numS fr ++ Nu.numS tq ++ Nu.numS rq ++ Nu.putText ky ++ Nu.numS ow ++ setBytes l s
def msgBytes (kd fr tq rq : Int) (ky : ByteArray) (ow : Int) (l : List (Int × Int)) (s : List Sib) : ByteArray := if msgB kd fr tq rq ky ow l s = true then Se.sealed (msgBody kd fr tq rq ky ow l s) else ⟨#[]⟩
theorem name_size {ky : ByteArray} (h : Nm.nameB ky = true) : 1 ≤ ky.size ∧ ky.size ≤ 20 := by
  unfold Nm.nameB at h
  simp only [Bool.and_eq_true, decide_eq_true_eq] at h
  exact h.1
structure MsgOk (kd fr tq rq : Int) (ky : ByteArray) (ow : Int) (l : List (Int × Int)) (s : List Sib) : Prop where
  kd1 : 1 ≤ kd
  kd2 : kd ≤ 4
  fr1 : 1 ≤ fr
  fr2 : fr ≤ 5
  tq1 : 1 ≤ tq
  tq2 : tq ≤ 5
  ow1 : 1 ≤ ow
  ow2 : ow ≤ 5
  rq1 : 0 ≤ rq
  rq2 : rq ≤ 1000000
  ky : Nm.nameB ky = true
  set : setB l s = true
theorem msgB_ok {kd fr tq rq : Int} {ky : ByteArray} {ow : Int} {l : List (Int × Int)} {s : List Sib} (h : msgB kd fr tq rq ky ow l s = true) : MsgOk kd fr tq rq ky ow l s := by
  have hk : isB kd 1 4 = true := by
    cases hc : isB kd 1 4
    · unfold msgB at h; rw [kind_no hc] at h; simp at h
    · rfl
  have hs : setB l s = true := by
    cases hc : setB l s
    · unfold msgB at h; rw [kind_ill hc] at h; simp at h
    · rfl
  unfold isB at hk
  unfold msgB hdB nodeB at h
  simp only [Bool.and_eq_true, decide_eq_true_eq] at h hk
  obtain ⟨⟨⟨⟨⟨⟨⟨a1, a2⟩, a3, a4⟩, a5, a6⟩, a7⟩, a8⟩, a9⟩, -⟩ := h
  exact ⟨hk.1, hk.2, a1, a2, a3, a4, a5, a6, a7, a8, a9, hs⟩
theorem putText_name {ky : ByteArray} (h : ky.size ≤ 20) : (Nu.putText ky).size ≤ 30 := by
  rw [Nu.putText_short ky (by omega), ByteArray.size_append]
  have := Nu.numS_size ky.size (by omega)
  omega
theorem setBytes_size {l : List (Int × Int)} {s : List Sib} (h : setB l s = true) : (setBytes l s).size ≤ 600 := by
  rw [setBytes_yes h]
  have : (ByteArray.mk (setBB l s).toArray).size = (setBB l s).length := by simp [ByteArray.size]
  rw [this]; exact setBB_len h
structure Sizes (kd fr tq rq : Int) (ky : ByteArray) (ow : Int) (l : List (Int × Int)) (s : List Sib) : Prop where
  kd : (Nu.numS kd).size ≤ 10
  fr : (Nu.numS fr).size ≤ 10
  tq : (Nu.numS tq).size ≤ 10
  rq : (Nu.numS rq).size ≤ 10
  ow : (Nu.numS ow).size ≤ 10
  ky : (Nu.putText ky).size ≤ 30
  st : (setBytes l s).size ≤ 600
theorem MsgOk.sizes {kd fr tq rq : Int} {ky : ByteArray} {ow : Int} {l : List (Int × Int)} {s : List Sib} (h : MsgOk kd fr tq rq ky ow l s) : Sizes kd fr tq rq ky ow l s := by
  obtain ⟨a1, a2, a3, a4, a5, a6, a7, a8, a9, a10, a11, a12⟩ := h
  exact ⟨Nu.numS_size_of _ (by omega), Nu.numS_size_of _ (by omega), Nu.numS_size_of _ (by omega), Nu.numS_size_of _ (by omega), Nu.numS_size_of _ (by omega), putText_name (name_size a11).2, setBytes_size a12⟩
end Go.Proofs.YtiaoifodaoifjaaDoor.Sb
