/- The contract of spec.PassOf. Condition: at most 1048576 marks and bytes. -/
import Derived.Test.YtiaoifodaoifjaaPassV
import Derived.Test.YtiaoifodaoifjaaSeenBytesS
set_option linter.unusedSimpArgs false
set_option linter.unusedVariables false
namespace Go.Proofs.Ytiaoifodaoifjaa.Sb
open Go.RowKit Go.Proofs.Ytiaoifodaoifjaa.Mk

set_option maxRecDepth 100000 in
theorem spec_pass (y : ByteArray) (a : Option Addr) (cap : Nat) (l : List (Int × Int)) (w : World) (hk : Nm.nameB y = true) (hr : rightB l = true) (h : MarksAt w a l) :
    Calls Try.prog 11 #[.string y, .slice a l.length cap] w fun e w' => e = .returned (.string (Se.sealed (passBody y l))) ∧ Below w.heap.size w w' := by
  have hz := passBody_size hk hr
  have hy := (name_size hk).2
  have H := Lib.hid h
  have HR := Lib.hid hr
  have HE := Lib.hid (show Nu.putText y ++ bytesV l = passBody y l from rfl)
  have hs : (Nu.putText y).size + (bytesV l).size ≤ 200 := by rw [← ByteArray.size_append]; exact hz
  have hw : ¬ 9223372036854775807 < (Nu.putText y).size + (bytesV l).size := by omega
  have D := Lib.hid (show Base w w from Below.refl _ _)
  clear h hk hr
  go_enter Try.func11, Try.ntmps11
  go_wp2_with fail
  refine (Nu.spec_PutText y (by unfold maxLen; omega) _).mono ?_
  rintro e w1 ⟨rfl, hb⟩
  replace D := Lib.hid (D.out.below hb)
  clear hb
  go_wp2_with fail
  refine (spec_bytes a cap l _ HR.out (H.out.mono D.out)).mono ?_
  rintro e w2 ⟨rfl, hb⟩
  replace D := Lib.hid (D.out.below hb)
  clear hb
  go_wp2_with fail
  rw [HE.out]
  refine (Se.spec_Seal (passBody y l) (by unfold maxLen; omega) _).mono ?_
  rintro e w3 ⟨rfl, hb⟩
  replace D := Lib.hid (D.out.below hb)
  clear hb
  go_wp2
  go_ret
  exact ⟨rfl, D.out⟩
set_option maxRecDepth 100000 in
theorem spec_passOf (y : ByteArray) (a : Option Addr) (cap : Nat) (l : List (Int × Int)) (w : World) (hy : y.size ≤ maxLen) (hl : l.length ≤ maxLen) (h : MarksAt w a l) :
    Calls Try.prog 5 #[.string y, .slice a l.length cap] w fun e w' => e = .returned (.string (passV y l)) ∧ Below w.heap.size w w' := by
  have H := Lib.hid h
  clear h
  cases hk : Nm.nameB y
  · have HV := Lib.hid (show passV y l = ⟨#[]⟩ from if_neg (by unfold passOk; rw [hk]; simp))
    have HK := Lib.hid hk
    clear hk
    go_enter Try.func5, Try.ntmps5
    go_wp2_with fail
    refine (Nm.spec_NameRight y hy _).mono ?_
    rintro e w1 ⟨rfl, rfl⟩
    rw [HK.out]
    go_wp2
    go_ret
    exact ⟨Se.ret_str HV.out.symm, Below.refl _ _⟩
  have HK := Lib.hid hk
  clear hk
  go_enter Try.func5, Try.ntmps5
  go_wp2_with fail
  refine (Nm.spec_NameRight y hy _).mono ?_
  rintro e w1 ⟨rfl, rfl⟩
  rw [HK.out]
  go_wp2_with fail
  refine (spec_seenRight a cap l _ hl H.out).mono ?_
  rintro e w1 ⟨rfl, hb⟩
  have D := Lib.hid (show Base w w1 from hb)
  clear hb
  cases hr : rightB l
  · have HV := Lib.hid (show passV y l = ⟨#[]⟩ from if_neg (by unfold passOk; rw [hr]; simp))
    clear hr
    go_wp2
    go_ret
    exact ⟨Se.ret_str HV.out.symm, D.out⟩
  have HR := Lib.hid hr
  have HV := Lib.hid (show passV y l = Se.sealed (passBody y l) from if_pos (by unfold passOk; rw [hr, HK.out]; rfl))
  clear hr
  go_wp2_with fail
  refine (spec_pass y a cap l _ HK.out HR.out (H.out.mono D.out)).mono ?_
  rintro e w2 ⟨rfl, hb⟩
  replace D := Lib.hid (D.out.below hb)
  clear hb
  go_wp2
  go_ret
  exact ⟨Se.ret_str HV.out.symm, D.out⟩
end Go.Proofs.Ytiaoifodaoifjaa.Sb
