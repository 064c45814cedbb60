/- The contract of impl.PassOf. Condition: at most 1048576 marks and bytes. -/
import Derived.Test.YtiaoifodaoifjaaPassV
import Derived.Test.YtiaoifodaoifjaaSeenBytes
set_option linter.unusedSimpArgs false
set_option linter.unusedVariables false
namespace Go.Proofs.Ytiaoifodaoifjaa.Sb
open Go.RowKit Go.Proofs.Ytiaoifodaoifjaa.Mk

set_option maxRecDepth 100000 in
theorem impl_passOf (y : ByteArray) (a : Option Addr) (cap : Nat) (l : List (Int × Int)) (w : World) (hy : y.size ≤ maxLen) (hl : l.length ≤ maxLen) (h : MarksAt w a l) :
    Calls Try.prog 7 #[.string y, .slice a l.length cap] w fun e w' => e = .returned (.string (passV y l)) ∧ Below w.heap.size w w' := by
  have H := Lib.hid h
  clear h
  cases hk : Nm.nameB y
  · have HV := Lib.hid (show passV y l = ⟨#[]⟩ from if_neg (by unfold passOk; rw [hk]; simp))
    have HK := Lib.hid hk
    clear hk
    go_enter Try.func7, Try.ntmps7
    go_wp2_with fail
    refine (Nm.impl_NameRight y hy _).mono ?_
    rintro e w1 ⟨rfl, rfl⟩
    rw [HK.out]
    go_wp2
    go_ret
    exact ⟨Se.ret_str HV.out.symm, Below.refl _ _⟩
  have HK := Lib.hid hk
  clear hk
  go_enter Try.func7, Try.ntmps7
  go_wp2_with fail
  refine (Nm.impl_NameRight y hy _).mono ?_
  rintro e w1 ⟨rfl, rfl⟩
  rw [HK.out]
  go_wp2_with fail
  refine (seenRight a cap l _ hl H.out).mono ?_
  rintro e w1 ⟨rfl, hb⟩
  have D := Lib.hid (show Base w w1 from hb)
  clear hb
  cases hr : rightB l
  · have HV := Lib.hid (show passV y l = ⟨#[]⟩ from if_neg (by unfold passOk; rw [hr]; simp))
    clear hr
    go_wp2
    go_ret
    exact ⟨Se.ret_str HV.out.symm, D.out⟩
  have HR := Lib.hid hr
  have HV := Lib.hid (show passV y l = Se.sealed (passBody y l) from if_pos (by unfold passOk; rw [hr, HK.out]; rfl))
  have hz := passBody_size HK.out hr
  have HE := Lib.hid (show Nu.putText y ++ bytesV l = passBody y l from rfl)
  have hs : (Nu.putText y).size + (bytesV l).size ≤ 200 := by rw [← ByteArray.size_append]; exact hz
  clear hr
  go_wp2_with fail
  refine (Nu.impl_PutText y hy _).mono ?_
  rintro e w2 ⟨rfl, hb⟩
  replace D := Lib.hid (D.out.below hb)
  clear hb
  go_wp2_with fail
  refine (impl_seenBytes a cap l _ hl (H.out.mono D.out)).mono ?_
  rintro e w3 ⟨rfl, hb⟩
  replace D := Lib.hid (D.out.below hb)
  clear hb
  go_wp2_with fail
  refine (Nu.joined_two (Nu.putText y) (bytesV l) _ (by omega)).mono ?_
  rintro e w4 ⟨rfl, hb⟩
  replace D := Lib.hid (D.out.below hb)
  clear hb
  rw [HE.out]
  go_wp2_with fail
  refine (Se.impl_Seal (passBody y l) (by unfold maxLen; omega) _).mono ?_
  rintro e w5 ⟨rfl, hb⟩
  replace D := Lib.hid (D.out.below hb)
  clear hb
  go_wp2
  go_ret
  exact ⟨Se.ret_str HV.out.symm, D.out⟩
end Go.Proofs.Ytiaoifodaoifjaa.Sb
