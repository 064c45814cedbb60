/- Contracts of spec.l01Crc, impl.crcShift, Crc and CrcMore of both, and the laws of Crc and CrcMore over them. No condition. -/
import Derived.Test.YtiaoifodaoifjaaDoorRows
import Derived.Test.YtiaoifodaoifjaaDoorCrcMath
import Derived.WalkKit
import Derived.ProofKit
import Derived.OpenShut
import Derived.ShutString
import Derived.Lib.Hide
import Derived.Deep.Light
import Derived.Laws.BitsAllLaws
set_option linter.unusedSimpArgs false
set_option linter.unusedVariables false
namespace Go.Proofs.YtiaoifodaoifjaaDoor.Cr
open Go.RowKit

theorem take_snoc (s : ByteArray) (k : Nat) (h : k < s.size) : s.data.toList.take (k + 1) = s.data.toList.take k ++ [s[k]] := by
  rw [List.take_succ_eq_append_getElem (by simpa using h)]; rfl

theorem and1 (R : Nat) (h : R < 4294967296) : bits .and .u32 (R : Int) 1 = ((R % 2 : Nat) : Int) := by
  have := u32_and_nat R 1 h (by omega)
  rw [nat_mask1] at this; exact this
theorem half_poly (R : Nat) (h : R < 4294967296) : bits .xor .u32 ((R : Int) / 2) 3988292384 = (((R / 2) ^^^ 3988292384 : Nat) : Int) := by
  have := u32_xor_nat (R / 2) 3988292384 (by omega) (by omega)
  rw [← this]; rfl
theorem not_u32 (n : Nat) (h : n < 4294967296) : bits .xor .u32 IntKind.u32.max (n : Int) = ((n ^^^ 4294967295 : Nat) : Int) := by
  have := u32_xor_nat 4294967295 n (by omega) h
  rw [Nat.xor_comm] at this; exact this
theorem xor_shift (R c j : Nat) (h : R < 4294967296) (hc : c < 4294967296) : bits .xor .u32 (R : Int) ((c : Int) / 2 ^ j) = ((R ^^^ (c / 2 ^ j) : Nat) : Int) := by
  have := u32_xor_nat R (c / 2 ^ j) h (Nat.lt_of_le_of_lt (Nat.div_le_self _ _) hc)
  rw [← this, Int.natCast_ediv, Int.natCast_pow]; rfl
theorem cstep_odd {R j X : Nat} (h : R = citer j X) (ho : R % 2 = 1) : (R / 2) ^^^ 3988292384 = citer (j + 1) X := by
  show _ = cstep (citer j X); rw [← h]; unfold cstep; rw [if_pos ho]
theorem cstep_even {R j X : Nat} (h : R = citer j X) (ho : ¬ R % 2 = 1) : R / 2 = citer (j + 1) X := by
  show _ = cstep (citer j X); rw [← h]; unfold cstep; rw [if_neg ho]
theorem pstep_odd {R j g c : Nat} (h : R = piter c j g) (ho : (R ^^^ (c / 2 ^ j)) % 2 = 1) : (R / 2) ^^^ 3988292384 = piter c (j + 1) g := by
  show _ = pstep (piter c j g) (c / 2 ^ j); rw [← h]; unfold pstep; rw [if_pos ho]
theorem pstep_even {R j g c : Nat} (h : R = piter c j g) (ho : ¬ (R ^^^ (c / 2 ^ j)) % 2 = 1) : R / 2 = piter c (j + 1) g := by
  show _ = pstep (piter c j g) (c / 2 ^ j); rw [← h]; unfold pstep; rw [if_neg ho]
/-- what both answer of a crc and a text -/
def crcMore (c : Int) (s : ByteArray) : Int :=
  if 8000 < s.size ∨ c < 0 ∨ 4294967295 < c then 0 else ((creg s.data.toList (c.toNat ^^^ 4294967295) ^^^ 4294967295 : Nat) : Int)
theorem ret_int {k : IntKind} {a b : Int} (h : a = b) : Ending.returned (.int k a) = .returned (.int k b) := by rw [h]
theorem val_int {k : IntKind} {a b : Int} (h : a = b) : Value.int k a = .int k b := by rw [h]

set_option maxHeartbeats 1000000 in
theorem spec_l01Crc (c : Nat) (hc : c < 4294967296) (s : ByteArray) (hs : s.size ≤ maxLen) (w : World) :
    Calls Tryd.prog 52 #[.int .i64 c, .string s] w fun e w' => e = .returned (.int .i64 ((creg s.data.toList (c ^^^ 4294967295) ^^^ 4294967295 : Nat) : Int)) ∧ w = w' := by
  unfold maxLen at hs
  have hx0 : bits .xor .u32 (c : Int) 4294967295 = ((c ^^^ 4294967295 : Nat) : Int) := u32_xor_nat c 4294967295 hc (by omega)
  have hX := xor_lt c 4294967295 hc (by omega)
  go_enter Tryd.func52, Tryd.ntmps52
  go_wp2
  clear hx0
  go_loop [5, 6] (fun r i => ∃ k R : Nat, k ≤ s.size ∧ i = .int .i64 k ∧ r = .int .u32 R ∧ R = creg (s.data.toList.take k) (c ^^^ 4294967295)) (fun _ i => s.size - (intOf i).toNat)
  case atStart => exact ⟨0, _, Nat.zero_le _, rfl, rfl, rfl⟩
  case round =>
    obtain ⟨k, R, hk, rfl, rfl, hR⟩ := hrel
    have hRl : R < 4294967296 := by rw [hR]; exact creg_lt _ _ hX
    have HR := Lib.hid hR
    clear hR
    by_cases hlt : k < s.size
    · have hsl := s[k].toNat_lt
      have hx1 : bits .xor .u32 (R : Int) (s[k].toNat : Int) = ((R ^^^ s[k].toNat : Nat) : Int) := u32_xor_nat R _ hRl (by omega)
      have hX1 := xor_lt R s[k].toNat hRl (by omega)
      go_wp2
      clear hx1
      go_loop [5, 7] (fun r i => ∃ j R' : Nat, j ≤ 8 ∧ i = .int .i64 j ∧ r = .int .u32 R' ∧ R' = citer j (R ^^^ s[k].toNat)) (fun _ i => 8 - (intOf i).toNat)
      case atStart => exact ⟨0, _, Nat.zero_le _, rfl, rfl, rfl⟩
      case round =>
        obtain ⟨j, R', hj, rfl, rfl, hR'⟩ := hrel
        have hRl' : R' < 4294967296 := by rw [hR']; exact citer_lt _ _ hX1
        have HR' := Lib.hid hR'
        clear hR'
        by_cases hj8 : j < 8
        · by_cases ho : R' % 2 = 1
          · have ha : bits .and .u32 (R' : Int) 1 = 1 := by rw [and1 R' hRl', ho]; rfl
            have hp := half_poly R' hRl'
            have HO := Lib.hid ho
            clear ho
            go_wp2
            go_round
            case rel => exact ⟨j + 1, _, by omega, by go_num, rfl, cstep_odd HR'.out HO.out⟩
            case measure => go_light; simp [intOf]; omega
          · have ha : bits .and .u32 (R' : Int) 1 = 0 := by rw [and1 R' hRl', show R' % 2 = 0 by omega]; rfl
            have HO := Lib.hid ho
            clear ho
            go_wp2
            go_round
            case rel => exact ⟨j + 1, R' / 2, by omega, by go_num, rfl, cstep_even HR'.out HO.out⟩
            case measure => go_light; simp [intOf]; omega
        · have hj' : j = 8 := by omega
          subst hj'
          go_wp2
          go_round
          case rel => exact ⟨k + 1, R', by omega, by go_num, rfl, by rw [take_snoc s k hlt, creg_snoc, ← HR.out]; exact HR'.out⟩
          case measure => go_light; simp [intOf]; omega
    · have hx2 : bits .xor .u32 (R : Int) 4294967295 = ((R ^^^ 4294967295 : Nat) : Int) := u32_xor_nat R 4294967295 hRl (by omega)
      have hRx := xor_lt R 4294967295 hRl (by omega)
      go_wp2
      go_ret
      refine ⟨ret_int ?_, rfl⟩
      have e := HR.out
      rw [List.take_of_length_le (by simp; omega)] at e
      rw [← e]

set_option maxHeartbeats 1000000 in
theorem impl_crcShift (r : Nat) (hr : r < 4294967296) (s : ByteArray) (hs : s.size ≤ maxLen) (w : World) :
    Calls Tryd.prog 86 #[.int .u32 r, .string s] w fun e w' => e = .returned (.int .u32 (creg s.data.toList r : Nat)) ∧ w = w' := by
  unfold maxLen at hs
  go_enter Tryd.func86, Tryd.ntmps86
  go_wp2
  go_loop [0, 5] (fun r' i => ∃ k R : Nat, k ≤ s.size ∧ i = .int .i64 k ∧ r' = .int .u32 R ∧ R = creg (s.data.toList.take k) r) (fun _ i => s.size - (intOf i).toNat)
  case atStart => exact ⟨0, _, Nat.zero_le _, rfl, rfl, rfl⟩
  case round =>
    obtain ⟨k, R, hk, rfl, rfl, hR⟩ := hrel
    have hRl : R < 4294967296 := by rw [hR]; exact creg_lt _ _ hr
    have HR := Lib.hid hR
    clear hR
    by_cases hlt : k < s.size
    · have hsl := s[k].toNat_lt
      go_wp2
      go_loop [0, 7] (fun r' i => ∃ j R' : Nat, j ≤ 8 ∧ i = .int .i64 j ∧ r' = .int .u32 R' ∧ R' = piter s[k].toNat j R) (fun _ i => 8 - (intOf i).toNat)
      case atStart => exact ⟨0, _, Nat.zero_le _, rfl, rfl, rfl⟩
      case round =>
        obtain ⟨j, R', hj, rfl, rfl, hR'⟩ := hrel
        have hRl' : R' < 4294967296 := by rw [hR']; exact piter_lt _ _ _ hRl
        have HR' := Lib.hid hR'
        clear hR'
        by_cases hj8 : j < 8
        · have hq := xor_shift R' s[k].toNat j hRl' (by omega)
          have hql := xor_lt R' (s[k].toNat / 2 ^ j) hRl' (Nat.lt_of_le_of_lt (Nat.div_le_self _ _) (by omega))
          by_cases ho : (R' ^^^ (s[k].toNat / 2 ^ j)) % 2 = 1
          · have ha : bits .and .u32 ((R' ^^^ (s[k].toNat / 2 ^ j) : Nat) : Int) 1 = 1 := by rw [and1 _ hql, ho]; rfl
            have hp := half_poly R' hRl'
            have HO := Lib.hid ho
            clear ho
            go_wp2
            go_round
            case rel => exact ⟨j + 1, _, by omega, by go_num, rfl, pstep_odd HR'.out HO.out⟩
            case measure => go_light; simp [intOf]; omega
          · have ha : bits .and .u32 ((R' ^^^ (s[k].toNat / 2 ^ j) : Nat) : Int) 1 = 0 := by rw [and1 _ hql, show (R' ^^^ (s[k].toNat / 2 ^ j)) % 2 = 0 by omega]; rfl
            have HO := Lib.hid ho
            clear ho
            go_wp2
            go_round
            case rel => exact ⟨j + 1, R' / 2, by omega, by go_num, rfl, pstep_even HR'.out HO.out⟩
            case measure => go_light; simp [intOf]; omega
        · have hj' : j = 8 := by omega
          subst hj'
          go_wp2
          go_round
          case rel => exact ⟨k + 1, R', by omega, by go_num, rfl, by rw [take_snoc s k hlt, creg_snoc, ← HR.out, ← piter_byte _ _ (by omega)]; exact HR'.out⟩
          case measure => go_light; simp [intOf]; omega
    · go_wp2
      go_ret
      refine ⟨ret_int ?_, rfl⟩
      have e := HR.out
      rw [List.take_of_length_le (by simp; omega)] at e
      rw [← e]

theorem crcMore_zero (c : Int) (s : ByteArray) (h : 8000 < s.size ∨ c < 0 ∨ 4294967295 < c) : crcMore c s = 0 := if_pos h
theorem crcMore_nat (c : Nat) (s : ByteArray) (h1 : ¬ 8000 < s.size) (h2 : c < 4294967296) : crcMore c s = ((creg s.data.toList (c ^^^ 4294967295) ^^^ 4294967295 : Nat) : Int) := by
  unfold crcMore; rw [if_neg (by omega)]; rfl

set_option maxHeartbeats 1000000 in
theorem impl_CrcMore (c : Int) (wc : (Lit.int .i64 c).wf = true) (s : ByteArray) (hs : s.size ≤ maxLen) (w : World) :
    Calls Tryd.prog 82 #[.int .i64 c, .string s] w fun e w' => e = .returned (.int .i64 (crcMore c s)) ∧ w = w' := by
  have hs' := hs
  unfold maxLen at hs
  have hw := bounds_i64 wc
  by_cases h1 : 8000 < s.size
  · go_enter Tryd.func82, Tryd.ntmps82
    go_wp2
    go_ret
    exact ⟨ret_int (crcMore_zero c s (.inl h1)).symm, rfl⟩
  have d1 : decide (8000 < (s.size : Int)) = false := by simp; omega
  by_cases h2 : c < 0
  · go_enter Tryd.func82, Tryd.ntmps82
    go_wp2
    go_ret
    exact ⟨ret_int (crcMore_zero c s (.inr (.inl h2))).symm, rfl⟩
  have d2 : decide (c < 0) = false := by simp; omega
  by_cases h3 : 4294967295 < c
  · go_enter Tryd.func82, Tryd.ntmps82
    go_wp2
    go_ret
    exact ⟨ret_int (crcMore_zero c s (.inr (.inr h3))).symm, rfl⟩
  obtain ⟨n, rfl⟩ : ∃ n : Nat, c = n := ⟨c.toNat, by omega⟩
  have hn : n < 4294967296 := by omega
  have d3 : decide (4294967295 < (n : Int)) = false := by simp; omega
  have q1 := not_u32 n hn
  have hm := xor_lt n 4294967295 hn (by omega)
  have hE := crcMore_nat n s h1 hn
  have hR := creg_lt s.data.toList _ hm
  have hK := impl_crcShift (n ^^^ 4294967295) hm s hs' w
  generalize creg s.data.toList (n ^^^ 4294967295) = R at hE hR hK
  have HE := Lib.hid hE
  have HK := Lib.hid hK
  clear hE hK
  have q2 := not_u32 R hR
  have hR2 := xor_lt R 4294967295 hR (by omega)
  replace hE := HE.out
  replace hK := HK.out
  clear HE HK
  generalize R ^^^ 4294967295 = Y at hE q2 hR2
  generalize n ^^^ 4294967295 = X at hK q1 hm
  have HE := Lib.hid hE
  have HK := Lib.hid hK
  clear hE hK
  go_enter Tryd.func82, Tryd.ntmps82
  go_wp2_with fail
  refine HK.out.mono ?_
  rintro e w' ⟨rfl, rfl⟩
  go_wp2_with fail
  go_ret
  exact ⟨ret_int HE.out.symm, rfl⟩

def crc (s : ByteArray) : Int := crcMore 0 s

set_option maxHeartbeats 1000000 in
theorem impl_Crc (s : ByteArray) (hs : s.size ≤ maxLen) (w : World) :
    Calls Tryd.prog 68 #[.string s] w fun e w' => e = .returned (.int .i64 (crc s)) ∧ w = w' := by
  go_enter Tryd.func68, Tryd.ntmps68
  go_wp2_with (go_at_call 82; refine (impl_CrcMore 0 (by decide) s hs _).mono ?_; rintro e w' ⟨rfl, rfl⟩)
  go_ret
  exact ⟨rfl, rfl⟩

end Go.Proofs.YtiaoifodaoifjaaDoor.Cr
