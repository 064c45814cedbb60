/- Contracts of PutText of the model and of the program; the law of PutText over them. No condition. -/
import Derived.Test.YtiaoifodaoifjaaDoorJoin
import Derived.Test.YtiaoifodaoifjaaDoorNum
import Derived.Test.YtiaoifodaoifjaaDoorNumS
import Derived.WalkArith
set_option linter.unusedSimpArgs false
set_option linter.unusedVariables false
namespace Go.Proofs.YtiaoifodaoifjaaDoor.Nu
open Go.RowKit

def putText (t : ByteArray) : ByteArray := if 8000 < t.size then ⟨#[]⟩ else numS t.size ++ t
theorem putText_long (t : ByteArray) (h : 8000 < t.size) : putText t = ⟨#[]⟩ := if_pos h
theorem putText_short (t : ByteArray) (h : ¬ 8000 < t.size) : putText t = numS t.size ++ t := if_neg h
theorem ret_str {a b : ByteArray} (h : a = b) : Ending.returned (.string a) = .returned (.string b) := by rw [h]
theorem wf_len (t : ByteArray) (h : t.size ≤ 9223372036854775807) : (Lit.int .i64 (t.size : Int)).wf = true := WalkArith.wf_i64 (by omega)

set_option maxRecDepth 100000 in
set_option maxHeartbeats 1000000 in
theorem spec_PutText (t : ByteArray) (hs : t.size ≤ maxLen) (w : World) :
    Calls Tryd.prog 61 #[.string t] w fun e w' => e = .returned (.string (putText t)) ∧ Below w.heap.size w w' := by
  unfold maxLen at hs
  by_cases h1 : 8000 < t.size
  · go_enter Tryd.func61, Tryd.ntmps61
    go_wp2
    go_ret
    exact ⟨ret_str (putText_long t h1).symm, Below.refl _ _⟩
  · have d1 : decide (8000 < (t.size : Int)) = false := by simp; omega
    go_enter Tryd.func61, Tryd.ntmps61
    go_wp2_with fail
    refine (spec_PutNum t.size (wf_len t (by omega)) _).mono ?_
    rintro e w1 ⟨rfl, hb1⟩
    have e0 : ByteArray.mk (enc (fold t.size)).toArray = numS t.size := rfl
    rw [e0]
    clear e0
    have hsm := numS_size t.size (by omega)
    go_wp2
    go_ret
    exact ⟨ret_str (putText_short t h1).symm, hb1⟩

set_option maxRecDepth 100000 in
set_option maxHeartbeats 1000000 in
theorem impl_PutText (t : ByteArray) (hs : t.size ≤ maxLen) (w : World) :
    Calls Tryd.prog 25 #[.string t] w fun e w' => e = .returned (.string (putText t)) ∧ Below w.heap.size w w' := by
  unfold maxLen at hs
  by_cases h1 : 8000 < t.size
  · go_enter Tryd.func25, Tryd.ntmps25
    go_wp2
    go_ret
    exact ⟨ret_str (putText_long t h1).symm, Below.refl _ _⟩
  · have d1 : decide (8000 < (t.size : Int)) = false := by simp; omega
    go_enter Tryd.func25, Tryd.ntmps25
    go_wp2_with fail
    refine (impl_PutNum t.size (wf_len t (by omega)) _).mono ?_
    rintro e w1 ⟨rfl, hb1⟩
    have e0 : ByteArray.mk (enc (fold t.size)).toArray = numS t.size := rfl
    rw [e0]
    clear e0
    have hsm := numS_size t.size (by omega)
    go_wp2_with fail
    refine (joined_two (numS t.size) t w1 (by omega)).mono ?_
    rintro e w2 ⟨rfl, hb2⟩
    go_wp2
    go_ret
    exact ⟨ret_str (putText_short t h1).symm, hb1.trans (hb2.mono hb1.size)⟩

end Go.Proofs.YtiaoifodaoifjaaDoor.Nu
