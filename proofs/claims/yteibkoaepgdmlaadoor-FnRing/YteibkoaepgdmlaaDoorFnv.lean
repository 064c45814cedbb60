/- Contracts of spec.l04Fnv, spec.Fnv and impl.Fnv, and the law of Fnv over them. No condition. -/
import Derived.Test.YteibkoaepgdmlaaDoorRows
import Derived.Test.YteibkoaepgdmlaaDoorFnvMath
import Derived.WalkKit
import Derived.ProofKit
import Derived.OpenShut
import Derived.ShutString
import Derived.Lib.Hide
import Derived.Deep.Light
import Derived.Laws.BitsAllLaws
set_option linter.unusedSimpArgs false
set_option linter.unusedVariables false
namespace Go.Proofs.YteibkoaepgdmlaaDoor.Fv
open Go.RowKit

theorem take_snoc (s : ByteArray) (k : Nat) (h : k < s.size) : s.data.toList.take (k + 1) = s.data.toList.take k ++ [s[k]] := by
  rw [List.take_succ_eq_append_getElem (by simpa using h)]; rfl
theorem i64_xor_nat (a b : Nat) (ha : a < 4294967296) (hb : b < 4294967296) : bits .xor .i64 (a : Int) (b : Int) = ((a ^^^ b : Nat) : Int) := by
  have hx : a ^^^ b < 2 ^ 32 := Nat.xor_lt_two_pow (by omega) (by omega)
  show IntKind.i64.wrap ((BitVec.ofInt 64 (a : Int) ^^^ BitVec.ofInt 64 (b : Int)).toNat : Int) = _
  rw [BitVec.toNat_xor, ofInt_u64 a (by omega), ofInt_u64 b (by omega)]
  simp only [IntKind.wrap, IntKind.bits, IntKind.signed]
  simp
  omega
theorem ret_int {k : IntKind} {a b : Int} (h : a = b) : Ending.returned (.int k a) = .returned (.int k b) := by rw [h]
theorem val_int {k : IntKind} {a b : Int} (h : a = b) : Value.int k a = .int k b := by rw [h]
set_option maxHeartbeats 1000000 in
theorem spec_l04Fnv (s : ByteArray) (hs : s.size ≤ maxLen) (w : World) :
    Calls Tryd.prog 62 #[.string s] w fun e w' => e = .returned (.int .i64 ((fnvN s.data.toList : Nat) : Int)) ∧ w = w' := by
  unfold maxLen at hs
  go_enter Tryd.func62, Tryd.ntmps62
  go_wp2
  go_loop [3, 4] (fun r i => ∃ k R : Nat, k ≤ s.size ∧ i = .int .i64 k ∧ r = .int .i64 R ∧ R = fnvN (s.data.toList.take k)) (fun _ i => s.size - (intOf i).toNat)
  case atStart => exact ⟨0, 2166136261, Nat.zero_le _, rfl, rfl, rfl⟩
  case round =>
    obtain ⟨k, R, hk, rfl, rfl, hR⟩ := hrel
    have hRl : R < 4294967296 := by rw [hR]; exact fnvN_lt _
    have HR := Lib.hid hR
    clear hR
    by_cases hlt : k < s.size
    · have hsl := s[k].toNat_lt
      have hx1 : bits .xor .i64 (R : Int) (s[k].toNat : Int) = ((R ^^^ s[k].toNat : Nat) : Int) := i64_xor_nat R _ hRl (by omega)
      have hX1 := xor_lt R s[k].toNat hRl (by omega)
      have HF := Lib.hid (fstep_eq R s[k] _ rfl)
      generalize R ^^^ s[k].toNat = X at hx1 hX1 HF
      go_wp2
      go_round
      case rel =>
        refine ⟨k + 1, fstep R s[k], by omega, by go_num, val_int ?_, by rw [take_snoc s k hlt, fnvN_snoc, ← HR.out]⟩
        rw [← HF.out]
      case measure => go_light; simp [intOf]; try omega
    · go_wp2
      go_ret
      refine ⟨ret_int ?_, rfl⟩
      have e := HR.out
      rw [List.take_of_length_le (by simp; try omega)] at e
      rw [← e]

set_option maxHeartbeats 1000000 in
theorem spec_Fnv (s : ByteArray) (hs : s.size ≤ maxLen) (w : World) :
    Calls Tryd.prog 25 #[.string s] w fun e w' => e = .returned (.int .i64 (fnvI s)) ∧ w = w' := by
  have hs' := hs
  unfold maxLen at hs
  have e : fnvI s = if 8000 < s.size then 0 else ((fnvN s.data.toList : Nat) : Int) := rfl
  rw [e]
  by_cases h : 8000 < s.size
  · rw [if_pos h]
    go_enter Tryd.func25, Tryd.ntmps25
    go_wp2
    go_ret
    exact ⟨rfl, rfl⟩
  · rw [if_neg h]
    generalize hf : ((fnvN s.data.toList : Nat) : Int) = r
    go_enter Tryd.func25, Tryd.ntmps25
    go_wp2_with (go_at_call 62; refine (spec_l04Fnv _ hs' _).mono ?_; rw [hf]; rintro e w' ⟨rfl, rfl⟩)
    go_ret
    exact ⟨rfl, rfl⟩

set_option maxHeartbeats 1000000 in
theorem impl_Fnv (s : ByteArray) (hs : s.size ≤ maxLen) (w : World) :
    Calls Tryd.prog 24 #[.string s] w fun e w' => e = .returned (.int .i64 (fnvI s)) ∧ w = w' := by
  unfold maxLen at hs
  have e : fnvI s = if 8000 < s.size then 0 else ((fnvN s.data.toList : Nat) : Int) := rfl
  rw [e]
  by_cases h : 8000 < s.size
  · rw [if_pos h]
    go_enter Tryd.func24, Tryd.ntmps24
    go_wp2
    go_ret
    exact ⟨rfl, rfl⟩
  · rw [if_neg h]
    go_enter Tryd.func24, Tryd.ntmps24
    go_wp2
    go_loop [3, 10] (fun r i => ∃ k R : Nat, k ≤ s.size ∧ i = .int .i64 k ∧ r = .int .u32 R ∧ R = fnvN (s.data.toList.take k)) (fun _ i => s.size - (intOf i).toNat)
    case atStart => exact ⟨0, 2166136261, Nat.zero_le _, rfl, rfl, rfl⟩
    case round =>
      obtain ⟨k, R, hk, rfl, rfl, hR⟩ := hrel
      have hRl : R < 4294967296 := by rw [hR]; exact fnvN_lt _
      have HR := Lib.hid hR
      clear hR
      by_cases hlt : k < s.size
      · have hsl := s[k].toNat_lt
        have hx1 : bits .xor .u32 (R : Int) (s[k].toNat : Int) = ((R ^^^ s[k].toNat : Nat) : Int) := u32_xor_nat R _ hRl (by omega)
        have hX1 := xor_lt R s[k].toNat hRl (by omega)
        have HF := Lib.hid (fstep_eq R s[k] _ rfl)
        generalize R ^^^ s[k].toNat = X at hx1 hX1 HF
        go_wp2
        go_round
        case rel =>
          refine ⟨k + 1, fstep R s[k], by omega, by go_num, val_int ?_, by rw [take_snoc s k hlt, fnvN_snoc, ← HR.out]⟩
          rw [← HF.out]
        case measure => go_light; simp [intOf]; try omega
      · go_wp2
        go_ret
        refine ⟨ret_int ?_, rfl⟩
        have e := HR.out
        rw [List.take_of_length_le (by simp; try omega)] at e
        rw [← e]
end Go.Proofs.YteibkoaepgdmlaaDoor.Fv
