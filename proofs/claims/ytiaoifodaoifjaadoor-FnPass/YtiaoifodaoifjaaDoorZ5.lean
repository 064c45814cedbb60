/- Parts of a law: Name. Conditions: on sizes, as each says. -/
import Derived.Test.YtiaoifodaoifjaaDoorZ1
import Derived.Test.YtiaoifodaoifjaaDoorRows
import Derived.WalkKit
import Derived.ProofKit
import Derived.OpenShut
import Derived.ShutString
import Derived.Lib.Hide
import Derived.Deep.Light
set_option linter.unusedSimpArgs false
set_option linter.unusedVariables false
namespace Go.Proofs.YtiaoifodaoifjaaDoor.Nm
open Go.RowKit
def isLet (c : Int) : Bool := decide (97 ≤ c) && decide (c ≤ 122)
def isNm (c : Int) : Bool := isLet c || (decide (48 ≤ c) && decide (c ≤ 57)) || c == 95
theorem ret_bool {a b : Bool} (h : a = b) : Ending.returned (.bool a) = .returned (.bool b) := by rw [h]
theorem isLetter (c : Int) (w : World) : Calls Tryd.prog 45 #[.int .u8 c] w fun e w' => e = .returned (.bool (isLet c)) ∧ w = w' := by
  go_enter Tryd.func45, Tryd.ntmps45
  go_wp2
  all_goals go_ret
  all_goals (refine ⟨ret_bool ?_, rfl⟩; unfold isLet; simp; omega)
theorem isNameByte (c : Int) (w : World) : Calls Tryd.prog 46 #[.int .u8 c] w fun e w' => e = .returned (.bool (isNm c)) ∧ w = w' := by
  go_enter Tryd.func46, Tryd.ntmps46
  go_wp2_with (go_at_call 45; refine (isLetter _ _).mono ?_; rintro e w' ⟨rfl, rfl⟩)
  all_goals go_ret
  all_goals (refine ⟨ret_bool ?_, rfl⟩; unfold isNm; simp [*])
  all_goals omega
def byteAt (s : ByteArray) (k : Nat) : Int := ((s.data.toList.getD k 0).toNat : Int)
def fits (s : ByteArray) (k : Nat) : Bool := if k = 0 then isLet (byteAt s k) else isNm (byteAt s k)
def nameB (s : ByteArray) : Bool := decide (1 ≤ s.size) && decide (s.size ≤ 20) && (List.range s.size).all (fits s)
theorem byteAt_eq (s : ByteArray) (k : Nat) (h : k < s.size) : byteAt s k = (s[k].toNat : Int) := by
  have e : s.data.toList[k]? = some s[k] := by rw [List.getElem?_eq_getElem (by simpa using h)]; rfl
  unfold byteAt; rw [List.getD, e]; rfl
theorem no (s : ByteArray) (k : Nat) (h : k < s.size) (hf : fits s k = false) : nameB s = false := by
  unfold nameB
  rw [Bool.and_eq_false_iff]; right
  rw [List.all_eq_false]
  exact ⟨k, by simpa using h, by simp [hf]⟩
theorem small (s : ByteArray) (h : s.size < 1) : nameB s = false := by unfold nameB; simp; omega
theorem great (s : ByteArray) (h : 20 < s.size) : nameB s = false := by unfold nameB; simp; omega
theorem yes (s : ByteArray) (k : Nat) (h1 : ¬ s.size < 1) (h2 : ¬ 20 < s.size) (hk : k ≤ s.size) (hn : ¬ k < s.size) (ha : (List.range k).all (fits s) = true) : nameB s = true := by
  have : k = s.size := by omega
  subst this
  unfold nameB; rw [ha]; simp; omega
theorem more (s : ByteArray) (k : Nat) (ha : (List.range k).all (fits s) = true) (hf : fits s k = true) : (List.range (k + 1)).all (fits s) = true := by
  rw [List.range_succ, List.all_append, ha]; simp [hf]
set_option maxHeartbeats 1000000 in
theorem spec_NameRight (s : ByteArray) (hs : s.size ≤ maxLen) (w : World) : Calls Tryd.prog 12 #[.string s] w fun e w' => e = .returned (.bool (nameB s)) ∧ w = w' := by
  unfold maxLen at hs
  by_cases h1 : s.size < 1
  · go_enter Tryd.func12, Tryd.ntmps12
    go_wp2
    go_ret
    exact ⟨ret_bool (small s h1).symm, rfl⟩
  · by_cases h2 : 20 < s.size
    · go_enter Tryd.func12, Tryd.ntmps12
      go_wp2
      go_ret
      exact ⟨ret_bool (great s h2).symm, rfl⟩
    · go_enter Tryd.func12, Tryd.ntmps12
      go_wp2
      go_loop [3] (fun i => ∃ k : Nat, k ≤ s.size ∧ i = .int .i64 k ∧ (List.range k).all (fits s) = true) (fun i => s.size - (intOf i).toNat)
      case atStart => exact ⟨0, Nat.zero_le _, rfl, rfl⟩
      case round =>
        obtain ⟨k, hk, rfl, ha⟩ := hrel
        have HA := jj ha
        clear ha
        by_cases hlt : k < s.size
        · have HF : Hid (fits s k = if k = 0 then isLet (s[k].toNat : Int) else isNm (s[k].toNat : Int)) := jj (by unfold fits; rw [byteAt_eq s k hlt])
          by_cases hk0 : k = 0
          · subst hk0
            go_wp2
            all_goals first
              | (go_ret; go_light; refine ⟨ret_bool (no s 0 hlt ?_).symm, rfl⟩; rw [HF.out]; clear HF HA; simp_all [isLet] <;> omega)
              | (go_round
                 case rel => exact ⟨0 + 1, by omega, by go_num, more s 0 HA.out (by rw [HF.out]; go_light; clear HF HA; simp_all [isLet] <;> omega)⟩
                 case measure => go_light; simp [intOf]; omega)
          · have hk1 : ((k : Int) == 0) = false := by simp; omega
            go_wp2
            all_goals first
              | (go_ret; go_light; refine ⟨ret_bool (no s k hlt ?_).symm, rfl⟩; rw [HF.out]; clear HF HA; simp_all [isLet, isNm] <;> omega)
              | (go_round
                 case rel => exact ⟨k + 1, by omega, by go_num, more s k HA.out (by rw [HF.out]; go_light; clear HF HA; simp_all [isLet, isNm] <;> omega)⟩
                 case measure => go_light; simp [intOf]; omega)
        · go_wp2
          go_ret
          exact ⟨ret_bool (yes s k h1 h2 hk hlt HA.out).symm, rfl⟩
set_option maxHeartbeats 1000000 in
theorem impl_NameRight (s : ByteArray) (hs : s.size ≤ maxLen) (w : World) : Calls Tryd.prog 21 #[.string s] w fun e w' => e = .returned (.bool (nameB s)) ∧ w = w' := by
  unfold maxLen at hs
  by_cases h1 : s.size < 1
  · go_enter Tryd.func21, Tryd.ntmps21
    go_wp2
    go_ret
    exact ⟨ret_bool (small s h1).symm, rfl⟩
  · by_cases h2 : 20 < s.size
    · go_enter Tryd.func21, Tryd.ntmps21
      go_wp2
      go_ret
      exact ⟨ret_bool (great s h2).symm, rfl⟩
    · have hp : 0 < s.size := by omega
      have HF : Hid (fits s 0 = isLet (s[0].toNat : Int)) := jj (by unfold fits; rw [byteAt_eq s 0 hp]; rfl)
      have d1 : decide ((s.size : Int) < 1) = false := by simp; omega
      have d2 : decide (20 < (s.size : Int)) = false := by simp; omega
      cases hl : isLet (s[0].toNat : Int)
      · go_enter Tryd.func21, Tryd.ntmps21
        go_wp2_with (go_at_call 45; refine (isLetter _ _).mono ?_; rintro e w' ⟨rfl, rfl⟩)
        go_ret
        exact ⟨ret_bool (no s 0 hp (HF.out.trans hl)).symm, rfl⟩
      have HL := jj (HF.out.trans hl)
      clear HF
      go_enter Tryd.func21, Tryd.ntmps21
      go_wp2_with (go_at_call 45; refine (isLetter _ _).mono ?_; rintro e w' ⟨rfl, rfl⟩)
      go_loop [3] (fun i => ∃ k : Nat, 1 ≤ k ∧ k ≤ s.size ∧ i = .int .i64 k ∧ (List.range k).all (fits s) = true) (fun i => s.size - (intOf i).toNat)
      case atStart => exact ⟨1, Nat.le_refl _, hp, rfl, more s 0 rfl HL.out⟩
      case round =>
        obtain ⟨k, hk1, hk, rfl, ha⟩ := hrel
        have HA := jj ha
        clear ha
        by_cases hlt : k < s.size
        · have HF : Hid (fits s k = isNm (s[k].toNat : Int)) := jj (by unfold fits; rw [byteAt_eq s k hlt, if_neg (by omega)])
          cases hf : isNm (s[k].toNat : Int)
          · go_wp2_with (go_at_call 46; refine (isNameByte _ _).mono ?_; rintro e w' ⟨rfl, rfl⟩)
            go_ret
            exact ⟨ret_bool (no s k hlt (HF.out.trans hf)).symm, rfl⟩
          · go_wp2_with (go_at_call 46; refine (isNameByte _ _).mono ?_; rintro e w' ⟨rfl, rfl⟩)
            go_round
            case rel => exact ⟨k + 1, by omega, by omega, by go_num, more s k HA.out (HF.out.trans hf)⟩
            case measure => go_light; simp [intOf]; omega
        · go_wp2
          go_ret
          exact ⟨ret_bool (yes s k h1 h2 hk hlt HA.out).symm, rfl⟩
end Go.Proofs.YtiaoifodaoifjaaDoor.Nm
