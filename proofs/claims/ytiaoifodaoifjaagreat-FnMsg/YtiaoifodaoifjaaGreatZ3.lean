/- Parts of a law: SetBytesMath, CrcMath, Crc, Seal, Frame2, Cells9, MsgVar, MarkText, TRow, MarkLaw, SibLaw, MarkOpen, SetLaw0, SetMark, SetOutLaw, PosMath, SibLess, SibOrder, MarkMap. Conditions: on sizes, as each says. -/
import Derived.Test.YtiaoifodaoifjaaGreatZ1
import Derived.Test.YtiaoifodaoifjaaGreatZ2
import Derived.KernelRfl
import Derived.Test.YtiaoifodaoifjaaGreatRows
import Derived.WalkKit
import Derived.ProofKit
import Derived.OpenShut
import Derived.ShutString
import Derived.Lib.Hide
import Derived.Deep.Light
import Derived.Laws.BitsAllLaws
import Derived.Deep.RegionHeld3
import Derived.StillTailTactics
import Derived.Deep.SlicePairs
import Derived.Lib.SmallJoins
import Derived.ChangeArms
import Derived.Deep.Strs
import Derived.Maps.OwnSet
import Derived.Maps.RangeWalk
set_option linter.unusedSimpArgs false
set_option linter.unusedVariables false
namespace Go.Proofs.YtiaoifodaoifjaaGreat.Sb
open Go.Proofs.YtiaoifodaoifjaaGreat.Mk Go.Proofs.YtiaoifodaoifjaaGreat.Nu
def goneI (g : Bool) : Int := if g = true then 1 else 0
def sibS (x : Sib) : ByteArray := markS x.1 ++ numS (goneI x.2.1) ++ putText x.2.2
def sibB (x : Sib) : List UInt8 := (sibS x).data.toList
def setBB (l : List (Int × Int)) (s : List Sib) : List UInt8 := seenB l ++ (enc (fold s.length) ++ s.flatMap sibB)
def setBytes (l : List (Int × Int)) (s : List Sib) : ByteArray := if setB l s = true then ⟨(setBB l s).toArray⟩ else ⟨#[]⟩
theorem setBytes_no {l : List (Int × Int)} {s : List Sib} (h : setB l s = false) : setBytes l s = ⟨#[]⟩ := if_neg (by rw [h]; simp)
theorem setBytes_yes {l : List (Int × Int)} {s : List Sib} (h : setB l s = true) : setBytes l s = ⟨(setBB l s).toArray⟩ := if_pos h
theorem ok_dot {l : List (Int × Int)} {x : Sib} (h : sibOk l x = true) : dotB x.1 = true ∧ x.2.2.size ≤ 16 := by
  unfold sibOk hasB contB at h
  simp at h
  exact ⟨h.1.1.2, h.2.1⟩
theorem goneI_size (g : Bool) : (numS (goneI g)).size ≤ 10 := by
  cases g
  · exact numS_size_of _ (by unfold goneI; simp)
  · exact numS_size_of _ (by unfold goneI; simp)
theorem putText_small {d : ByteArray} (h : d.size ≤ 16) : putText d = numS d.size ++ d := putText_short d (by omega)
theorem putText_size {d : ByteArray} (h : d.size ≤ 16) : (putText d).size ≤ 26 := by
  rw [putText_small h, ByteArray.size_append]
  have := numS_size d.size (by omega)
  omega
theorem sibS_size {l : List (Int × Int)} {x : Sib} (h : sibOk l x = true) : (sibS x).size ≤ 56 := by
  obtain ⟨h1, h2⟩ := ok_dot h
  have a := markS_size x.1 h1
  have b := goneI_size x.2.1
  have c := putText_size h2
  unfold sibS; rw [ByteArray.size_append, ByteArray.size_append]; omega
theorem sibB_len {l : List (Int × Int)} {x : Sib} (h : sibOk l x = true) : (sibB x).length ≤ 56 := by
  unfold sibB; rw [Array.length_toList]; exact sibS_size h
theorem flatS_len {l : List (Int × Int)} : ∀ (s : List Sib), (∀ x ∈ s, sibOk l x = true) → (s.flatMap sibB).length ≤ 56 * s.length
  | [], _ => by simp
  | x :: r, h => by
    have h1 := sibB_len (h x (by simp))
    have h2 := flatS_len r (fun m hm => h m (by simp [hm]))
    rw [List.flatMap_cons, List.length_append, List.length_cons]; omega
theorem seenB_len {l : List (Int × Int)} (h : rightB l = true) : (seenB l).length ≤ 110 := by
  have h5 := right_len h
  have h2 := enc_len10 (fold l.length) (fold_lt _ (by omega))
  have h3 := flat_length_le l (right_dot h)
  unfold seenB; rw [List.length_append]; omega
theorem setOk_of {l : List (Int × Int)} {s : List Sib} (h : setB l s = true) : SetOk l s := of_decide_eq_true h
theorem setBB_len {l : List (Int × Int)} {s : List Sib} (h : setB l s = true) : (setBB l s).length ≤ 600 := by
  obtain ⟨h1, h2, h3, _⟩ := setOk_of h
  have a := seenB_len h1
  have b := enc_len10 (fold s.length) (fold_lt _ (by omega))
  have c := flatS_len s h3
  unfold setBB; rw [List.length_append, List.length_append]; omega
def partsS (l : List (Int × Int)) (s : List Sib) (k : Nat) : List ByteArray := bytesV l :: numS s.length :: (s.take k).map sibS
theorem partsS_next (l : List (Int × Int)) (s : List Sib) (k : Nat) (h : k < s.length) : partsS l s (k + 1) = partsS l s k ++ [sibS s[k]] := by
  unfold partsS; rw [List.take_succ_eq_append_getElem h, List.map_append]; rfl
theorem cat_partsS {l : List (Int × Int)} (hr : rightB l = true) (s : List Sib) (k : Nat) : cat (partsS l s k) = seenB l ++ (enc (fold s.length) ++ (s.take k).flatMap sibB) := by
  unfold partsS cat
  rw [List.map_cons, List.flatten_cons, List.map_cons, List.flatten_cons, numS_data, List.map_map, bytesV_yes hr]
  rw [List.flatMap_def]
  rfl
def upToS (l : List (Int × Int)) (s : List Sib) (k : Nat) (t : ByteArray) : Prop := t.data.toList = seenB l ++ (enc (fold s.length) ++ (s.take k).flatMap sibB) ∧ t.size ≤ 200 + 56 * k
theorem upToS_zero {l : List (Int × Int)} {s : List Sib} (hr : rightB l = true) (h : s.length ≤ 8) : upToS l s 0 (bytesV l ++ numS s.length) := by
  refine ⟨?_, ?_⟩
  · rw [ByteArray.data_append, bytesV_yes hr]; simp [numS]
  · have a := seenB_len hr
    have b := numS_size s.length (by omega)
    rw [ByteArray.size_append, bytesV_yes hr]
    have : (ByteArray.mk (seenB l).toArray).size = (seenB l).length := by simp [ByteArray.size]
    omega
theorem upToS_next {l : List (Int × Int)} {s : List Sib} {k : Nat} {t : ByteArray} (h : upToS l s k t) (hk : k < s.length) (ho : sibOk l s[k] = true) :
    upToS l s (k + 1) (t ++ numS s[k].1.1 ++ numS s[k].1.2 ++ numS (goneI s[k].2.1) ++ putText s[k].2.2) := by
  have hs := sibS_size ho
  have h3 := h.2
  refine ⟨?_, ?_⟩
  · rw [List.take_succ_eq_append_getElem hk, List.flatMap_append]
    simp only [ByteArray.data_append, Array.toList_append, h.1, List.flatMap_cons, List.flatMap_nil, List.append_nil, sibB, sibS, markS, List.append_assoc]
  · unfold sibS markS at hs
    simp only [ByteArray.size_append] at hs ⊢
    omega
theorem upToS_end {l : List (Int × Int)} {s : List Sib} {k : Nat} {t : ByteArray} (h : upToS l s k t) (hk : s.length ≤ k) (hr : setB l s = true) : t = setBytes l s := by
  rw [setBytes_yes hr]
  have h1 := h.1
  rw [List.take_of_length_le hk] at h1
  apply ByteArray.ext
  apply Array.ext'
  rw [h1]; rfl
end Go.Proofs.YtiaoifodaoifjaaGreat.Sb
namespace Go.Proofs.YtiaoifodaoifjaaGreat.Cr
def cstep (r : Nat) : Nat := if r % 2 = 1 then (r / 2) ^^^ 3988292384 else r / 2
def citer : Nat → Nat → Nat
  | 0, r => r
  | k + 1, r => cstep (citer k r)
def cbyte (r c : Nat) : Nat := citer 8 (r ^^^ c)
def creg (l : List UInt8) (r : Nat) : Nat := l.foldl (fun r c => cbyte r c.toNat) r
theorem cstep_lt (r : Nat) (h : r < 4294967296) : cstep r < 4294967296 := by
  unfold cstep
  split
  · exact Nat.xor_lt_two_pow (n := 32) (by omega) (by omega)
  · omega
theorem citer_lt (k r : Nat) (h : r < 4294967296) : citer k r < 4294967296 := by
  induction k with
  | zero => exact h
  | succ k ih => exact cstep_lt _ ih
theorem xor_lt (a b : Nat) (ha : a < 4294967296) (hb : b < 4294967296) : a ^^^ b < 4294967296 := Nat.xor_lt_two_pow (n := 32) ha hb
theorem cbyte_lt (r c : Nat) (h : r < 4294967296) (hc : c < 4294967296) : cbyte r c < 4294967296 := citer_lt _ _ (xor_lt _ _ h hc)
theorem creg_snoc (l : List UInt8) (c : UInt8) (r : Nat) : creg (l ++ [c]) r = cbyte (creg l r) c.toNat := by
  unfold creg; rw [List.foldl_append]; rfl
theorem creg_lt (l : List UInt8) (r : Nat) (h : r < 4294967296) : creg l r < 4294967296 := by
  induction l generalizing r with
  | nil => exact h
  | cons c l ih => exact ih _ (cbyte_lt _ _ h (by have := c.toNat_lt; omega))
theorem creg_append (l m : List UInt8) (r : Nat) : creg (l ++ m) r = creg m (creg l r) := by
  unfold creg; rw [List.foldl_append]
theorem xor_div2 (a b : Nat) : (a ^^^ b) / 2 = (a / 2) ^^^ (b / 2) := by
  apply Nat.eq_of_testBit_eq
  intro i
  rw [Nat.testBit_div_two, Nat.testBit_xor, Nat.testBit_xor, Nat.testBit_div_two, Nat.testBit_div_two]
def pstep (g b : Nat) : Nat := if (g ^^^ b) % 2 = 1 then (g / 2) ^^^ 3988292384 else g / 2
def piter (c : Nat) : Nat → Nat → Nat
  | 0, g => g
  | k + 1, g => pstep (piter c k g) (c / 2 ^ k)
theorem pstep_lt (g b : Nat) (h : g < 4294967296) : pstep g b < 4294967296 := by
  unfold pstep
  split
  · exact Nat.xor_lt_two_pow (n := 32) (by omega) (by omega)
  · omega
theorem piter_lt (c k g : Nat) (h : g < 4294967296) : piter c k g < 4294967296 := by
  induction k with
  | zero => exact h
  | succ k ih => exact pstep_lt _ _ ih
theorem piter_eq (c k g : Nat) : citer k (g ^^^ c) = piter c k g ^^^ (c / 2 ^ k) := by
  induction k with
  | zero => simp [citer, piter]
  | succ k ih =>
    have e : c / 2 ^ (k + 1) = c / 2 ^ k / 2 := by rw [Nat.pow_succ, Nat.div_div_eq_div_mul]
    show cstep (citer k (g ^^^ c)) = pstep (piter c k g) (c / 2 ^ k) ^^^ (c / 2 ^ (k + 1))
    rw [ih, e]
    unfold cstep pstep
    rw [xor_div2]
    split
    · rw [Nat.xor_assoc, Nat.xor_assoc, Nat.xor_comm (c / 2 ^ k / 2)]
    · rfl
theorem piter_byte (c g : Nat) (hc : c < 256) : piter c 8 g = cbyte g c := by
  have h := piter_eq c 8 g
  have z : c / 2 ^ 8 = 0 := by omega
  rw [z, Nat.xor_zero] at h
  exact h.symm
open Go.RowKit
theorem take_snoc (s : ByteArray) (k : Nat) (h : k < s.size) : s.data.toList.take (k + 1) = s.data.toList.take k ++ [s[k]] := by
  rw [List.take_succ_eq_append_getElem (by simpa using h)]; rfl
theorem and1 (R : Nat) (h : R < 4294967296) : bits .and .u32 (R : Int) 1 = ((R % 2 : Nat) : Int) := by
  have := u32_and_nat R 1 h (by omega)
  rw [nat_mask1] at this; exact this
theorem half_poly (R : Nat) (h : R < 4294967296) : bits .xor .u32 ((R : Int) / 2) 3988292384 = (((R / 2) ^^^ 3988292384 : Nat) : Int) := by
  have := u32_xor_nat (R / 2) 3988292384 (by omega) (by omega)
  rw [← this]; rfl
theorem not_u32 (n : Nat) (h : n < 4294967296) : bits .xor .u32 IntKind.u32.max (n : Int) = ((n ^^^ 4294967295 : Nat) : Int) := by
  have := u32_xor_nat 4294967295 n (by omega) h
  rw [Nat.xor_comm] at this; exact this
theorem xor_shift (R c j : Nat) (h : R < 4294967296) (hc : c < 4294967296) : bits .xor .u32 (R : Int) ((c : Int) / 2 ^ j) = ((R ^^^ (c / 2 ^ j) : Nat) : Int) := by
  have := u32_xor_nat R (c / 2 ^ j) h (Nat.lt_of_le_of_lt (Nat.div_le_self _ _) hc)
  rw [← this, Int.natCast_ediv, Int.natCast_pow]; rfl
theorem cstep_odd {R j X : Nat} (h : R = citer j X) (ho : R % 2 = 1) : (R / 2) ^^^ 3988292384 = citer (j + 1) X := by
  show _ = cstep (citer j X); rw [← h]; unfold cstep; rw [if_pos ho]
theorem cstep_even {R j X : Nat} (h : R = citer j X) (ho : ¬ R % 2 = 1) : R / 2 = citer (j + 1) X := by
  show _ = cstep (citer j X); rw [← h]; unfold cstep; rw [if_neg ho]
theorem pstep_odd {R j g c : Nat} (h : R = piter c j g) (ho : (R ^^^ (c / 2 ^ j)) % 2 = 1) : (R / 2) ^^^ 3988292384 = piter c (j + 1) g := by
  show _ = pstep (piter c j g) (c / 2 ^ j); rw [← h]; unfold pstep; rw [if_pos ho]
theorem pstep_even {R j g c : Nat} (h : R = piter c j g) (ho : ¬ (R ^^^ (c / 2 ^ j)) % 2 = 1) : R / 2 = piter c (j + 1) g := by
  show _ = pstep (piter c j g) (c / 2 ^ j); rw [← h]; unfold pstep; rw [if_neg ho]
def crcMore (c : Int) (s : ByteArray) : Int :=
  if 8000 < s.size ∨ c < 0 ∨ 4294967295 < c then 0 else ((creg s.data.toList (c.toNat ^^^ 4294967295) ^^^ 4294967295 : Nat) : Int)
theorem ret_int {k : IntKind} {a b : Int} (h : a = b) : Ending.returned (.int k a) = .returned (.int k b) := by rw [h]
set_option maxHeartbeats 1000000 in
theorem spec_l01Crc (c : Nat) (hc : c < 4294967296) (s : ByteArray) (hs : s.size ≤ maxLen) (w : World) :
    Calls Tryz.prog 55 #[.int .i64 c, .string s] w fun e w' => e = .returned (.int .i64 ((creg s.data.toList (c ^^^ 4294967295) ^^^ 4294967295 : Nat) : Int)) ∧ w = w' := by
  unfold maxLen at hs
  have hx0 : bits .xor .u32 (c : Int) 4294967295 = ((c ^^^ 4294967295 : Nat) : Int) := u32_xor_nat c 4294967295 hc (by omega)
  have hX := xor_lt c 4294967295 hc (by omega)
  go_enter Tryz.func55, Tryz.ntmps55
  go_wp2
  clear hx0
  go_loop [5, 6] (fun r i => ∃ k R : Nat, k ≤ s.size ∧ i = .int .i64 k ∧ r = .int .u32 R ∧ R = creg (s.data.toList.take k) (c ^^^ 4294967295)) (fun _ i => s.size - (intOf i).toNat)
  case atStart => exact ⟨0, _, Nat.zero_le _, rfl, rfl, rfl⟩
  case round =>
    obtain ⟨k, R, hk, rfl, rfl, hR⟩ := hrel
    have hRl : R < 4294967296 := by rw [hR]; exact creg_lt _ _ hX
    have HR := jj hR
    clear hR
    by_cases hlt : k < s.size
    · have hsl := s[k].toNat_lt
      have hx1 : bits .xor .u32 (R : Int) (s[k].toNat : Int) = ((R ^^^ s[k].toNat : Nat) : Int) := u32_xor_nat R _ hRl (by omega)
      have hX1 := xor_lt R s[k].toNat hRl (by omega)
      go_wp2
      clear hx1
      go_loop [5, 7] (fun r i => ∃ j R' : Nat, j ≤ 8 ∧ i = .int .i64 j ∧ r = .int .u32 R' ∧ R' = citer j (R ^^^ s[k].toNat)) (fun _ i => 8 - (intOf i).toNat)
      case atStart => exact ⟨0, _, Nat.zero_le _, rfl, rfl, rfl⟩
      case round =>
        obtain ⟨j, R', hj, rfl, rfl, hR'⟩ := hrel
        have hRl' : R' < 4294967296 := by rw [hR']; exact citer_lt _ _ hX1
        have HR' := jj hR'
        clear hR'
        by_cases hj8 : j < 8
        · by_cases ho : R' % 2 = 1
          · have ha : bits .and .u32 (R' : Int) 1 = 1 := by rw [and1 R' hRl', ho]; rfl
            have hp := half_poly R' hRl'
            have HO := jj ho
            clear ho
            go_wp2
            go_round
            case rel => exact ⟨j + 1, _, by omega, by go_num, rfl, cstep_odd HR'.out HO.out⟩
            case measure => go_light; simp [intOf]; omega
          · have ha : bits .and .u32 (R' : Int) 1 = 0 := by rw [and1 R' hRl', show R' % 2 = 0 by omega]; rfl
            have HO := jj ho
            clear ho
            go_wp2
            go_round
            case rel => exact ⟨j + 1, R' / 2, by omega, by go_num, rfl, cstep_even HR'.out HO.out⟩
            case measure => go_light; simp [intOf]; omega
        · have hj' : j = 8 := by omega
          subst hj'
          go_wp2
          go_round
          case rel => exact ⟨k + 1, R', by omega, by go_num, rfl, by rw [take_snoc s k hlt, creg_snoc, ← HR.out]; exact HR'.out⟩
          case measure => go_light; simp [intOf]; omega
    · have hx2 : bits .xor .u32 (R : Int) 4294967295 = ((R ^^^ 4294967295 : Nat) : Int) := u32_xor_nat R 4294967295 hRl (by omega)
      have hRx := xor_lt R 4294967295 hRl (by omega)
      go_wp2
      go_ret
      refine ⟨ret_int ?_, rfl⟩
      have e := HR.out
      rw [List.take_of_length_le (by simp; omega)] at e
      rw [← e]
set_option maxHeartbeats 1000000 in
theorem impl_crcShift (r : Nat) (hr : r < 4294967296) (s : ByteArray) (hs : s.size ≤ maxLen) (w : World) :
    Calls Tryz.prog 109 #[.int .u32 r, .string s] w fun e w' => e = .returned (.int .u32 (creg s.data.toList r : Nat)) ∧ w = w' := by
  unfold maxLen at hs
  go_enter Tryz.func109, Tryz.ntmps109
  go_wp2
  go_loop [0, 5] (fun r' i => ∃ k R : Nat, k ≤ s.size ∧ i = .int .i64 k ∧ r' = .int .u32 R ∧ R = creg (s.data.toList.take k) r) (fun _ i => s.size - (intOf i).toNat)
  case atStart => exact ⟨0, _, Nat.zero_le _, rfl, rfl, rfl⟩
  case round =>
    obtain ⟨k, R, hk, rfl, rfl, hR⟩ := hrel
    have hRl : R < 4294967296 := by rw [hR]; exact creg_lt _ _ hr
    have HR := jj hR
    clear hR
    by_cases hlt : k < s.size
    · have hsl := s[k].toNat_lt
      go_wp2
      go_loop [0, 7] (fun r' i => ∃ j R' : Nat, j ≤ 8 ∧ i = .int .i64 j ∧ r' = .int .u32 R' ∧ R' = piter s[k].toNat j R) (fun _ i => 8 - (intOf i).toNat)
      case atStart => exact ⟨0, _, Nat.zero_le _, rfl, rfl, rfl⟩
      case round =>
        obtain ⟨j, R', hj, rfl, rfl, hR'⟩ := hrel
        have hRl' : R' < 4294967296 := by rw [hR']; exact piter_lt _ _ _ hRl
        have HR' := jj hR'
        clear hR'
        by_cases hj8 : j < 8
        · have hq := xor_shift R' s[k].toNat j hRl' (by omega)
          have hql := xor_lt R' (s[k].toNat / 2 ^ j) hRl' (Nat.lt_of_le_of_lt (Nat.div_le_self _ _) (by omega))
          by_cases ho : (R' ^^^ (s[k].toNat / 2 ^ j)) % 2 = 1
          · have ha : bits .and .u32 ((R' ^^^ (s[k].toNat / 2 ^ j) : Nat) : Int) 1 = 1 := by rw [and1 _ hql, ho]; rfl
            have hp := half_poly R' hRl'
            have HO := jj ho
            clear ho
            go_wp2
            go_round
            case rel => exact ⟨j + 1, _, by omega, by go_num, rfl, pstep_odd HR'.out HO.out⟩
            case measure => go_light; simp [intOf]; omega
          · have ha : bits .and .u32 ((R' ^^^ (s[k].toNat / 2 ^ j) : Nat) : Int) 1 = 0 := by rw [and1 _ hql, show (R' ^^^ (s[k].toNat / 2 ^ j)) % 2 = 0 by omega]; rfl
            have HO := jj ho
            clear ho
            go_wp2
            go_round
            case rel => exact ⟨j + 1, R' / 2, by omega, by go_num, rfl, pstep_even HR'.out HO.out⟩
            case measure => go_light; simp [intOf]; omega
        · have hj' : j = 8 := by omega
          subst hj'
          go_wp2
          go_round
          case rel => exact ⟨k + 1, R', by omega, by go_num, rfl, by rw [take_snoc s k hlt, creg_snoc, ← HR.out, ← piter_byte _ _ (by omega)]; exact HR'.out⟩
          case measure => go_light; simp [intOf]; omega
    · go_wp2
      go_ret
      refine ⟨ret_int ?_, rfl⟩
      have e := HR.out
      rw [List.take_of_length_le (by simp; omega)] at e
      rw [← e]
theorem crcMore_zero (c : Int) (s : ByteArray) (h : 8000 < s.size ∨ c < 0 ∨ 4294967295 < c) : crcMore c s = 0 := if_pos h
theorem crcMore_nat (c : Nat) (s : ByteArray) (h1 : ¬ 8000 < s.size) (h2 : c < 4294967296) : crcMore c s = ((creg s.data.toList (c ^^^ 4294967295) ^^^ 4294967295 : Nat) : Int) := by
  unfold crcMore; rw [if_neg (by omega)]; rfl
set_option maxHeartbeats 1000000 in
theorem impl_CrcMore (c : Int) (wc : (Lit.int .i64 c).wf = true) (s : ByteArray) (hs : s.size ≤ maxLen) (w : World) :
    Calls Tryz.prog 100 #[.int .i64 c, .string s] w fun e w' => e = .returned (.int .i64 (crcMore c s)) ∧ w = w' := by
  have hs' := hs
  unfold maxLen at hs
  have hw := bounds_i64 wc
  by_cases h1 : 8000 < s.size
  · go_enter Tryz.func100, Tryz.ntmps100
    go_wp2
    go_ret
    exact ⟨ret_int (crcMore_zero c s (.inl h1)).symm, rfl⟩
  have d1 : decide (8000 < (s.size : Int)) = false := by simp; omega
  by_cases h2 : c < 0
  · go_enter Tryz.func100, Tryz.ntmps100
    go_wp2
    go_ret
    exact ⟨ret_int (crcMore_zero c s (.inr (.inl h2))).symm, rfl⟩
  have d2 : decide (c < 0) = false := by simp; omega
  by_cases h3 : 4294967295 < c
  · go_enter Tryz.func100, Tryz.ntmps100
    go_wp2
    go_ret
    exact ⟨ret_int (crcMore_zero c s (.inr (.inr h3))).symm, rfl⟩
  obtain ⟨n, rfl⟩ : ∃ n : Nat, c = n := ⟨c.toNat, by omega⟩
  have hn : n < 4294967296 := by omega
  have d3 : decide (4294967295 < (n : Int)) = false := by simp; omega
  have q1 := not_u32 n hn
  have hm := xor_lt n 4294967295 hn (by omega)
  have hE := crcMore_nat n s h1 hn
  have hR := creg_lt s.data.toList _ hm
  have hK := impl_crcShift (n ^^^ 4294967295) hm s hs' w
  generalize creg s.data.toList (n ^^^ 4294967295) = R at hE hR hK
  have HE := jj hE
  have HK := jj hK
  clear hE hK
  have q2 := not_u32 R hR
  have hR2 := xor_lt R 4294967295 hR (by omega)
  replace hE := HE.out
  replace hK := HK.out
  clear HE HK
  generalize R ^^^ 4294967295 = Y at hE q2 hR2
  generalize n ^^^ 4294967295 = X at hK q1 hm
  have HE := jj hE
  have HK := jj hK
  clear hE hK
  go_enter Tryz.func100, Tryz.ntmps100
  go_wp2_with fail
  refine HK.out.mono ?_
  rintro e w' ⟨rfl, rfl⟩
  go_wp2_with fail
  go_ret
  exact ⟨ret_int HE.out.symm, rfl⟩
def crc (s : ByteArray) : Int := crcMore 0 s
set_option maxHeartbeats 1000000 in
theorem impl_Crc (s : ByteArray) (hs : s.size ≤ maxLen) (w : World) :
    Calls Tryz.prog 78 #[.string s] w fun e w' => e = .returned (.int .i64 (crc s)) ∧ w = w' := by
  go_enter Tryz.func78, Tryz.ntmps78
  go_wp2_with (go_at_call 100; refine (impl_CrcMore 0 (by decide) s hs _).mono ?_; rintro e w' ⟨rfl, rfl⟩)
  go_ret
  exact ⟨rfl, rfl⟩
end Go.Proofs.YtiaoifodaoifjaaGreat.Cr
namespace Go.Proofs.YtiaoifodaoifjaaGreat.Se
open Go.RowKit Nu Cr
def crcN (s : ByteArray) : Nat := (crc s).toNat
theorem crcN_short (s : ByteArray) (h : ¬ 8000 < s.size) : crcN s = creg s.data.toList (0 ^^^ 4294967295) ^^^ 4294967295 := by
  unfold crcN crc
  have := crcMore_nat 0 s h (by omega)
  rw [show ((0 : Nat) : Int) = 0 from rfl] at this
  rw [this]; simp
theorem crcN_lt (s : ByteArray) : crcN s < 4294967296 := by
  by_cases h : 8000 < s.size
  · unfold crcN crc; rw [crcMore_zero 0 s (.inl h)]; simp
  · rw [crcN_short s h]
    exact xor_lt _ _ (creg_lt _ _ (xor_lt _ _ (by omega) (by omega))) (by omega)
theorem crc_eq (s : ByteArray) : crc s = (crcN s : Nat) := by
  by_cases h : 8000 < s.size
  · unfold crcN crc; rw [crcMore_zero 0 s (.inl h)]; rfl
  · have := crcMore_nat 0 s h (by omega)
    rw [show ((0 : Nat) : Int) = 0 from rfl] at this
    rw [crcN_short s h]; exact this
def fourL (c : Nat) : List UInt8 := [UInt8.ofNat (c % 256), UInt8.ofNat (c / 256 % 256), UInt8.ofNat (c / 65536 % 256), UInt8.ofNat (c / 16777216 % 256)]
def four (c : Nat) : ByteArray := ⟨(fourL c).toArray⟩
theorem four_size (c : Nat) : (four c).size = 4 := rfl
def sealed (s : ByteArray) : ByteArray := if 7996 < s.size then ⟨#[]⟩ else s ++ four (crcN s)
theorem sealed_long (s : ByteArray) (h : 7996 < s.size) : sealed s = ⟨#[]⟩ := if_pos h
theorem sealed_short (s : ByteArray) (h : ¬ 7996 < s.size) : sealed s = s ++ four (crcN s) := if_neg h
theorem ret_str {a b : ByteArray} (h : a = b) : Ending.returned (.string a) = .returned (.string b) := by rw [h]
theorem conv4 (c : Nat) (w : World) :
    (convert 22 9 (.slice (some ⟨w.heap.size, 0, none⟩) 4 4)).run Tryz.prog (w.alloc (.cells #[.int .u8 ((c : Int) % 256), .int .u8 ((c : Int) / 256 % 256), .int .u8 ((c : Int) / 65536 % 256), .int .u8 ((c : Int) / 16777216 % 256)] 5)) =
      .ok (.string (four c)) (w.alloc (.cells #[.int .u8 ((c : Int) % 256), .int .u8 ((c : Int) / 256 % 256), .int .u8 ((c : Int) / 65536 % 256), .int .u8 ((c : Int) / 16777216 % 256)] 5)) := by
  refine run_convert_bytes_back (P := Tryz.prog) _ 22 9 5 ⟨w.heap.size, 0, none⟩ 4 (fourL c) Tryz.underlying22 Tryz.underlying5 Tryz.underlying9 (fun j hj => ?_)
  have e : (⟨w.heap.size, 0, none⟩ : Addr).add j = ⟨w.heap.size, j, none⟩ := by unfold Addr.add; split <;> simp_all
  rw [e, World.cell?_alloc_mark]
  have hb : ∀ k : Nat, k < 256 → some (Value.int .u8 (k : Int)) = some (Value.int .u8 ((UInt8.ofNat k).toNat : Int)) := fun k hk => by rw [toNat_ofNat k hk]
  match j, hj with
  | 0, _ => exact hb (c % 256) (by omega)
  | 1, _ => exact hb (c / 256 % 256) (by omega)
  | 2, _ => exact hb (c / 65536 % 256) (by omega)
  | 3, _ => exact hb (c / 16777216 % 256) (by omega)
set_option maxHeartbeats 1000000 in
theorem spec_four (c : Nat) (hc : c < 4294967296) (w : World) :
    Calls Tryz.prog 54 #[.int .i64 c] w fun e w' => e = .returned (.string (four c)) ∧ Below w.heap.size w w' := by
  have h4 := conv4 c w
  rw [show ((c : Int) / 16777216 % 256) = (c : Int) / 16777216 by omega] at h4
  go_enter Tryz.func54, Tryz.ntmps54
  go_wp2
  go_ret
  exact ⟨rfl, (Below.refl _ _).alloc (Nat.le_refl _) _⟩
theorem arr4 : Tryz.prog.arrayLen 127 = 4 := by kernel_rfl
theorem size4 (W : World) : (sizeOf (Tryz.prog.elem 127)).run Tryz.prog W = .ok 1 W := by kernel_rfl
theorem slice4 (g : Nat) (W : World) :
    (Instr.sliceAt 127 (.pointer (some ⟨g, 0, none⟩)) none none none).run Tryz.prog W = .ok (.slice (some ⟨g, 0, none⟩) 4 4) W := by
  rw [run_sliceAt_array_all W 127 _ (by kernel_rfl), size4, arr4]
  simp [slicedAt, Addr.add]
theorem arr_new4 (w : World) : Arr (w.alloc (.cells #[.int .u8 0, .int .u8 0, .int .u8 0, .int .u8 0] 127)) w.heap.size [0, 0, 0, 0] := by
  constructor
  · intro j hj
    have : j < 4 := hj
    rw [World.cell?_alloc_mark]
    match j, this with
    | 0, _ | 1, _ | 2, _ | 3, _ => rfl
  · intro j
    rw [World.frozen?_alloc_mark]; simp
theorem byteIs (c k : Nat) (hk : k < 4) : Value.int .u8 ((c : Int) / 2 ^ (8 * k) % 256) = bv ((fourL c)[k]'hk) := by
  have e : (c : Int) / 2 ^ (8 * k) % 256 = ((c / 2 ^ (8 * k) % 256 : Nat) : Int) := by rw [Int.natCast_emod, Int.natCast_ediv, Int.natCast_pow]; rfl
  rw [e]
  match k, hk with
  | 0, _ => show Value.int .u8 ((c / 1 % 256 : Nat) : Int) = _; rw [Nat.div_one]; exact bv_of (c % 256) (by omega)
  | 1, _ => exact bv_of (c / 256 % 256) (by omega)
  | 2, _ => exact bv_of (c / 65536 % 256) (by omega)
  | 3, _ => exact bv_of (c / 16777216 % 256) (by omega)
set_option maxRecDepth 100000 in
set_option maxHeartbeats 1000000 in
theorem impl_sumOf (s : ByteArray) (hs : s.size ≤ maxLen) (w : World) :
    Calls Tryz.prog 50 #[.string s] w fun e w' => e = .returned (.string (four (crcN s))) ∧ Below w.heap.size w w' := by
  have hcl := crcN_lt s
  have hK := fun W => impl_Crc s hs W
  rw [crc_eq s] at hK
  generalize crcN s = c at hcl hK
  have HK := jj hK
  clear hK
  go_enter Tryz.func50, Tryz.ntmps50
  go_wp2_with fail
  refine (HK.out _).mono ?_
  rintro e w1 ⟨rfl, rfl⟩
  go_wp2
  go_loopw [8] (fun i wr => ∃ (k : Nat) (l : List UInt8), k ≤ 4 ∧ i = .int .i64 k ∧ l.length = 4 ∧ l.take k = (fourL c).take k ∧ Arr wr w.heap.size l ∧ Below w.heap.size w wr) (fun i _ => 4 - (intOf i).toNat)
  case atStart => exact ⟨0, [0, 0, 0, 0], by omega, rfl, rfl, rfl, arr_new4 w, (Below.refl _ _).alloc (Nat.le_refl _) _⟩
  case round =>
    obtain ⟨k, l, hk, rfl, hl, htk, harr, hbel⟩ := hrel
    have HL := jj hl
    have HT := jj htk
    have HA := jj harr
    clear hl htk harr
    by_cases h4 : k < 4
    · have c1 := HA.out.cell k (by rw [HL.out]; omega)
      have c2 := HA.out.free k
      generalize l[k]'(by rw [HL.out]; omega) = lk at c1
      go_wp2
      go_roundw
      case rel =>
        refine ⟨k + 1, l.set k ((fourL c)[k]'h4), by omega, by go_num, ?_, ?_, ?_, hbel.setCell (Nat.le_refl _) _⟩
        · rw [List.length_set]; exact HL.out
        · rw [take_set _ _ (by rw [HL.out]; omega), HT.out, List.take_succ_eq_append_getElem (show k < (fourL c).length from h4)]; rfl
        · rw [byteIs c k h4]; exact HA.out.set k (by rw [HL.out]; omega) _
      case measure => go_light; simp [intOf]; omega
    · have hk4 : k = 4 := by omega
      subst hk4
      have hs4 := slice4 w.heap.size
      have hc := HA.out.string 4 4 (by rw [HL.out]; omega)
      rw [HT.out] at hc
      go_wp2
      go_ret
      exact ⟨rfl, hbel⟩
set_option maxRecDepth 100000 in
set_option maxHeartbeats 1000000 in
theorem spec_Seal (s : ByteArray) (hs : s.size ≤ maxLen) (w : World) :
    Calls Tryz.prog 26 #[.string s] w fun e w' => e = .returned (.string (sealed s)) ∧ Below w.heap.size w w' := by
  have hs' := hs
  unfold maxLen at hs
  by_cases h1 : 7996 < s.size
  · go_enter Tryz.func26, Tryz.ntmps26
    go_wp2
    go_ret
    exact ⟨ret_str (sealed_long s h1).symm, Below.refl _ _⟩
  · have hK := fun W => spec_l01Crc 0 (by omega) s hs' W
    rw [← crcN_short s (by omega)] at hK
    have HE := jj (sealed_short s h1)
    have hcl := crcN_lt s
    generalize crcN s = c at hcl hK HE
    have HK := jj hK
    clear hK
    have hz := four_size c
    have hsum : s.size + (four c).size ≤ 8000 := by omega
    clear hz
    go_enter Tryz.func26, Tryz.ntmps26
    go_wp2_with fail
    refine (HK.out _).mono ?_
    rintro e w1 ⟨rfl, rfl⟩
    go_wp2_with fail
    refine (spec_four c hcl _).mono ?_
    rintro e w2 ⟨rfl, hb2⟩
    go_wp2
    go_ret
    exact ⟨ret_str HE.out.symm, hb2⟩
set_option maxRecDepth 100000 in
set_option maxHeartbeats 1000000 in
theorem impl_Seal (s : ByteArray) (hs : s.size ≤ maxLen) (w : World) :
    Calls Tryz.prog 21 #[.string s] w fun e w' => e = .returned (.string (sealed s)) ∧ Below w.heap.size w w' := by
  have hs' := hs
  unfold maxLen at hs
  by_cases h1 : 7996 < s.size
  · go_enter Tryz.func21, Tryz.ntmps21
    go_wp2
    go_ret
    exact ⟨ret_str (sealed_long s h1).symm, Below.refl _ _⟩
  · have hK := fun W => impl_sumOf s hs' W
    have HE := jj (sealed_short s h1)
    have hz := four_size (crcN s)
    generalize four (crcN s) = f at hK HE hz
    have HK := jj hK
    have hsum : s.size + f.size ≤ 8000 := by omega
    clear hK hz
    go_enter Tryz.func21, Tryz.ntmps21
    go_wp2_with fail
    refine (HK.out _).mono ?_
    rintro e w1 ⟨rfl, hb1⟩
    go_wp2_with fail
    refine (joined_two s f w1 (by omega)).mono ?_
    rintro e w2 ⟨rfl, hb2⟩
    go_wp2
    go_ret
    exact ⟨ret_str HE.out.symm, hb1.trans (hb2.mono hb1.size)⟩
end Go.Proofs.YtiaoifodaoifjaaGreat.Se
namespace Go.Proofs.YtiaoifodaoifjaaGreat.Rw
open Go.RowKit Go.Proofs.YtiaoifodaoifjaaGreat.Mk
structure Cells (w : World) (g : Nat) (vs : List Value) : Prop where
  cell : ∀ i (h : i < vs.length), w.cell? ⟨g, i, none⟩ = some vs[i]
  free : ∀ i, w.frozen? ⟨g, i, none⟩ = false
  lt : g < w.heap.size
theorem Cells.same {w w' : World} {g : Nat} {vs : List Value} (h : Cells w g vs) (hs : w'.heap[g]? = w.heap[g]?) (hz : w.heap.size ≤ w'.heap.size) : Cells w' g vs :=
  ⟨fun i hi => (World.cell?_of_block (a := ⟨g, i, none⟩) hs).trans (h.cell i hi), fun i => (World.frozen?_of_block (a := ⟨g, i, none⟩) hs).trans (h.free i), Nat.lt_of_lt_of_le h.lt hz⟩
theorem Cells.below {w w' : World} {g : Nat} {vs : List Value} (h : Cells w g vs) (hb : Below w.heap.size w w') : Cells w' g vs := h.same (hb.block g h.lt) hb.size
theorem Cells.within {w w' : World} {lo hi g : Nat} {vs : List Value} (h : Cells w g vs) (hw : Within lo hi w w') (ha : g < lo ∨ hi ≤ g) : Cells w' g vs := h.same (hw.block g h.lt ha) hw.size
theorem Cells.new (w : World) (vs : Array Value) (t : TypeId) : Cells (w.alloc (.cells vs t)) w.heap.size vs.toList :=
  ⟨fun i hi => by
    have hi' : i < vs.size := by simpa using hi
    rw [World.cell?_alloc_mark]; simp [hi'],
   fun i => by rw [World.frozen?_alloc_mark]; simp, by simp⟩
theorem Cells.set {w : World} {g : Nat} {vs : List Value} (h : Cells w g vs) (i : Nat) (hi : i < vs.length) (x : Value) : Cells (w.setCell ⟨g, i, none⟩ x) g (vs.set i x) :=
  ⟨fun j hj => by
    have hj' : j < vs.length := by simpa using hj
    by_cases e : i = j
    · subst e; rw [World.cell?_setCell_same _ _ _ (h.cell i hi), List.getElem_set_self]
    · rw [World.cell?_setCell_other _ _ _ _ (ne_off e), h.cell j hj', List.getElem_set_ne e],
   fun j => by rw [World.frozen?_setCell]; exact h.free j, by simpa [World.setCell] using h.lt⟩
theorem one_store (w : World) (g i : Nat) (x : Value) : Within g (g + 1) w (w.setCell ⟨g, i, none⟩ x) := (Within.refl g (g + 1) w).setCell (p := ⟨g, i, none⟩) (Nat.le_refl _) (Nat.lt_succ_self _) x
theorem Cells.c2 {w : World} {g : Nat} {u v : Value} (h : Cells w g [u, v]) : w.cell? ⟨g, 0, none⟩ = some u ∧ w.cell? ⟨g, 1, none⟩ = some v ∧ w.frozen? ⟨g, 0, none⟩ = false ∧ w.frozen? ⟨g, 1, none⟩ = false :=
  ⟨h.cell 0 (by simp), h.cell 1 (by simp), h.free 0, h.free 1⟩
theorem Cells.c3 {w : World} {g : Nat} {u v x : Value} (h : Cells w g [u, v, x]) : w.cell? ⟨g, 0, none⟩ = some u ∧ w.cell? ⟨g, 1, none⟩ = some v ∧ w.cell? ⟨g, 2, none⟩ = some x ∧ w.frozen? ⟨g, 0, none⟩ = false ∧ w.frozen? ⟨g, 1, none⟩ = false ∧ w.frozen? ⟨g, 2, none⟩ = false :=
  ⟨h.cell 0 (by simp), h.cell 1 (by simp), h.cell 2 (by simp), h.free 0, h.free 1, h.free 2⟩
theorem Cells.c4 {w : World} {g : Nat} {u v x y : Value} (h : Cells w g [u, v, x, y]) : w.cell? ⟨g, 0, none⟩ = some u ∧ w.cell? ⟨g, 1, none⟩ = some v ∧ w.cell? ⟨g, 2, none⟩ = some x ∧ w.cell? ⟨g, 3, none⟩ = some y ∧ w.frozen? ⟨g, 0, none⟩ = false ∧ w.frozen? ⟨g, 1, none⟩ = false ∧ w.frozen? ⟨g, 2, none⟩ = false ∧ w.frozen? ⟨g, 3, none⟩ = false :=
  ⟨h.cell 0 (by simp), h.cell 1 (by simp), h.cell 2 (by simp), h.cell 3 (by simp), h.free 0, h.free 1, h.free 2, h.free 3⟩
theorem Cells.c5 {w : World} {g : Nat} {u v x y z : Value} (h : Cells w g [u, v, x, y, z]) : w.cell? ⟨g, 0, none⟩ = some u ∧ w.cell? ⟨g, 1, none⟩ = some v ∧ w.cell? ⟨g, 2, none⟩ = some x ∧ w.cell? ⟨g, 3, none⟩ = some y ∧ w.cell? ⟨g, 4, none⟩ = some z ∧
    w.frozen? ⟨g, 0, none⟩ = false ∧ w.frozen? ⟨g, 1, none⟩ = false ∧ w.frozen? ⟨g, 2, none⟩ = false ∧ w.frozen? ⟨g, 3, none⟩ = false ∧ w.frozen? ⟨g, 4, none⟩ = false :=
  ⟨h.cell 0 (by simp), h.cell 1 (by simp), h.cell 2 (by simp), h.cell 3 (by simp), h.cell 4 (by simp), h.free 0, h.free 1, h.free 2, h.free 3, h.free 4⟩
theorem size_set (w : World) (p : Addr) (v : Value) : (w.setCell p v).heap.size = w.heap.size := by simp [World.setCell]
open Go.RowKit Go.Proofs.YtiaoifodaoifjaaGreat.Mk
theorem Cells.c6 {w : World} {g : Nat} {v0 v1 v2 v3 v4 v5 : Value} (h : Cells w g [v0, v1, v2, v3, v4, v5]) : w.cell? ⟨g, 0, none⟩ = some v0 ∧ w.cell? ⟨g, 1, none⟩ = some v1 ∧ w.cell? ⟨g, 2, none⟩ = some v2 ∧ w.cell? ⟨g, 3, none⟩ = some v3 ∧ w.cell? ⟨g, 4, none⟩ = some v4 ∧ w.cell? ⟨g, 5, none⟩ = some v5 ∧ w.frozen? ⟨g, 0, none⟩ = false ∧ w.frozen? ⟨g, 1, none⟩ = false ∧ w.frozen? ⟨g, 2, none⟩ = false ∧ w.frozen? ⟨g, 3, none⟩ = false ∧ w.frozen? ⟨g, 4, none⟩ = false ∧ w.frozen? ⟨g, 5, none⟩ = false :=
  ⟨h.cell 0 (by simp), h.cell 1 (by simp), h.cell 2 (by simp), h.cell 3 (by simp), h.cell 4 (by simp), h.cell 5 (by simp), h.free 0, h.free 1, h.free 2, h.free 3, h.free 4, h.free 5⟩
theorem Cells.c7 {w : World} {g : Nat} {v0 v1 v2 v3 v4 v5 v6 : Value} (h : Cells w g [v0, v1, v2, v3, v4, v5, v6]) : w.cell? ⟨g, 0, none⟩ = some v0 ∧ w.cell? ⟨g, 1, none⟩ = some v1 ∧ w.cell? ⟨g, 2, none⟩ = some v2 ∧ w.cell? ⟨g, 3, none⟩ = some v3 ∧ w.cell? ⟨g, 4, none⟩ = some v4 ∧ w.cell? ⟨g, 5, none⟩ = some v5 ∧ w.cell? ⟨g, 6, none⟩ = some v6 ∧ w.frozen? ⟨g, 0, none⟩ = false ∧ w.frozen? ⟨g, 1, none⟩ = false ∧ w.frozen? ⟨g, 2, none⟩ = false ∧ w.frozen? ⟨g, 3, none⟩ = false ∧ w.frozen? ⟨g, 4, none⟩ = false ∧ w.frozen? ⟨g, 5, none⟩ = false ∧ w.frozen? ⟨g, 6, none⟩ = false :=
  ⟨h.cell 0 (by simp), h.cell 1 (by simp), h.cell 2 (by simp), h.cell 3 (by simp), h.cell 4 (by simp), h.cell 5 (by simp), h.cell 6 (by simp), h.free 0, h.free 1, h.free 2, h.free 3, h.free 4, h.free 5, h.free 6⟩
theorem Cells.c8 {w : World} {g : Nat} {v0 v1 v2 v3 v4 v5 v6 v7 : Value} (h : Cells w g [v0, v1, v2, v3, v4, v5, v6, v7]) : w.cell? ⟨g, 0, none⟩ = some v0 ∧ w.cell? ⟨g, 1, none⟩ = some v1 ∧ w.cell? ⟨g, 2, none⟩ = some v2 ∧ w.cell? ⟨g, 3, none⟩ = some v3 ∧ w.cell? ⟨g, 4, none⟩ = some v4 ∧ w.cell? ⟨g, 5, none⟩ = some v5 ∧ w.cell? ⟨g, 6, none⟩ = some v6 ∧ w.cell? ⟨g, 7, none⟩ = some v7 ∧ w.frozen? ⟨g, 0, none⟩ = false ∧ w.frozen? ⟨g, 1, none⟩ = false ∧ w.frozen? ⟨g, 2, none⟩ = false ∧ w.frozen? ⟨g, 3, none⟩ = false ∧ w.frozen? ⟨g, 4, none⟩ = false ∧ w.frozen? ⟨g, 5, none⟩ = false ∧ w.frozen? ⟨g, 6, none⟩ = false ∧ w.frozen? ⟨g, 7, none⟩ = false :=
  ⟨h.cell 0 (by simp), h.cell 1 (by simp), h.cell 2 (by simp), h.cell 3 (by simp), h.cell 4 (by simp), h.cell 5 (by simp), h.cell 6 (by simp), h.cell 7 (by simp), h.free 0, h.free 1, h.free 2, h.free 3, h.free 4, h.free 5, h.free 6, h.free 7⟩
theorem Cells.c9 {w : World} {g : Nat} {v0 v1 v2 v3 v4 v5 v6 v7 v8 : Value} (h : Cells w g [v0, v1, v2, v3, v4, v5, v6, v7, v8]) : w.cell? ⟨g, 0, none⟩ = some v0 ∧ w.cell? ⟨g, 1, none⟩ = some v1 ∧ w.cell? ⟨g, 2, none⟩ = some v2 ∧ w.cell? ⟨g, 3, none⟩ = some v3 ∧ w.cell? ⟨g, 4, none⟩ = some v4 ∧ w.cell? ⟨g, 5, none⟩ = some v5 ∧ w.cell? ⟨g, 6, none⟩ = some v6 ∧ w.cell? ⟨g, 7, none⟩ = some v7 ∧ w.cell? ⟨g, 8, none⟩ = some v8 ∧ w.frozen? ⟨g, 0, none⟩ = false ∧ w.frozen? ⟨g, 1, none⟩ = false ∧ w.frozen? ⟨g, 2, none⟩ = false ∧ w.frozen? ⟨g, 3, none⟩ = false ∧ w.frozen? ⟨g, 4, none⟩ = false ∧ w.frozen? ⟨g, 5, none⟩ = false ∧ w.frozen? ⟨g, 6, none⟩ = false ∧ w.frozen? ⟨g, 7, none⟩ = false ∧ w.frozen? ⟨g, 8, none⟩ = false :=
  ⟨h.cell 0 (by simp), h.cell 1 (by simp), h.cell 2 (by simp), h.cell 3 (by simp), h.cell 4 (by simp), h.cell 5 (by simp), h.cell 6 (by simp), h.cell 7 (by simp), h.cell 8 (by simp), h.free 0, h.free 1, h.free 2, h.free 3, h.free 4, h.free 5, h.free 6, h.free 7, h.free 8⟩
end Go.Proofs.YtiaoifodaoifjaaGreat.Rw
namespace Go.Proofs.YtiaoifodaoifjaaGreat.Sb
open Go.RowKit Go.Proofs.YtiaoifodaoifjaaGreat.Mk Go.Proofs.YtiaoifodaoifjaaGreat.Rw
theorem cells_set9 {w : World} {g : Nat} {u0 u1 u2 u3 u4 u5 u6 u7 u8 : Value} (h : Cells w g [u0, u1, u2, u3, u4, u5, u6, u7, u8]) (v0 v1 v2 v3 v4 v5 v6 v7 v8 : Value) : Cells (((((((((w.setCell ⟨g, 0, none⟩ v0).setCell ⟨g, 1, none⟩ v1).setCell ⟨g, 2, none⟩ v2).setCell ⟨g, 3, none⟩ v3).setCell ⟨g, 4, none⟩ v4).setCell ⟨g, 5, none⟩ v5).setCell ⟨g, 6, none⟩ v6).setCell ⟨g, 7, none⟩ v7).setCell ⟨g, 8, none⟩ v8) g [v0, v1, v2, v3, v4, v5, v6, v7, v8] :=
  (((((((((h.set 0 (by simp) v0).set 1 (by simp) v1).set 2 (by simp) v2).set 3 (by simp) v3).set 4 (by simp) v4).set 5 (by simp) v5).set 6 (by simp) v6).set 7 (by simp) v7).set 8 (by simp) v8)
theorem within_set9 (w : World) (g : Nat) (v0 v1 v2 v3 v4 v5 v6 v7 v8 : Value) : Within g (g + 1) w (((((((((w.setCell ⟨g, 0, none⟩ v0).setCell ⟨g, 1, none⟩ v1).setCell ⟨g, 2, none⟩ v2).setCell ⟨g, 3, none⟩ v3).setCell ⟨g, 4, none⟩ v4).setCell ⟨g, 5, none⟩ v5).setCell ⟨g, 6, none⟩ v6).setCell ⟨g, 7, none⟩ v7).setCell ⟨g, 8, none⟩ v8) :=
  (((((((((one_store w g 0 v0).trans (one_store _ g 1 v1)).trans (one_store _ g 2 v2)).trans (one_store _ g 3 v3)).trans (one_store _ g 4 v4)).trans (one_store _ g 5 v5)).trans (one_store _ g 6 v6)).trans (one_store _ g 7 v7)).trans (one_store _ g 8 v8))
open Go.RowKit Go.Proofs.YtiaoifodaoifjaaGreat.Mk Go.Proofs.YtiaoifodaoifjaaGreat.Rw
theorem Within.mono {lo hi g : Nat} {a b : World} (h : Within g (g + 1) a b) (h1 : lo ≤ g) (h2 : g < hi) : Within lo hi a b :=
  ⟨h.os, h.tape, h.output, h.size, fun i hi ho => h.block i hi (by omega)⟩
open Go.RowKit Go.Proofs.YtiaoifodaoifjaaGreat.Mk Go.Proofs.YtiaoifodaoifjaaGreat.Rw
def SmallData (l : List Sib) : Prop := ∀ x ∈ l, x.2.2.size ≤ maxLen
open Go.RowKit Go.Proofs.YtiaoifodaoifjaaGreat.Mk Go.Proofs.YtiaoifodaoifjaaGreat.Rw
theorem Within.wide {lo hi lo' hi' : Nat} {a b : World} (h : Within lo' hi' a b) (h1 : lo ≤ lo') (h2 : hi' ≤ hi) : Within lo hi a b :=
  ⟨h.os, h.tape, h.output, h.size, fun i hi ho => h.block i hi (by omega)⟩
open Go.Proofs.YtiaoifodaoifjaaGreat.Mk
theorem lessB_iff (a b : Int × Int) : lessB a b = true ↔ a.1 < b.1 ∨ (a.1 = b.1 ∧ a.2 < b.2) := by unfold lessB; simp
theorem less_trans {a b c : Int × Int} (h : lessB a b = true) (k : lessB b c = true) : lessB a c = true := by
  rw [lessB_iff] at *; omega
theorem less_irrefl (a : Int × Int) : lessB a a = false := by
  rw [← Bool.not_eq_true, lessB_iff]; omega
theorem less_total {a b : Int × Int} (h : lessB a b = false) (k : lessB b a = false) : a = b := by
  rw [← Bool.not_eq_true, lessB_iff] at h k
  apply Prod.ext <;> omega
theorem less_asymm {a b : Int × Int} (h : lessB a b = true) : lessB b a = false := by
  rw [← Bool.not_eq_true, lessB_iff]
  rw [lessB_iff] at h
  omega
theorem Inc.lt {s : List Sib} (h : Inc s) : ∀ (n q : Nat), q + n + 1 < s.length → lessB (s.getD q z0).1 (s.getD (q + n + 1) z0).1 = true
  | 0, q, hq => h q hq
  | n + 1, q, hq => less_trans (Inc.lt h n q (by omega)) (h (q + n + 1) (by omega))
theorem Inc.lt' {s : List Sib} (h : Inc s) {q r : Nat} (hq : q < r) (hr : r < s.length) : lessB (s.getD q z0).1 (s.getD r z0).1 = true := by
  have := h.lt (r - q - 1) q (by omega)
  rwa [show q + (r - q - 1) + 1 = r by omega] at this
theorem Inc.down {s : List Sib} (h : Inc s) {d : Int × Int} {k q : Nat} (hk : k < s.length) (hl : lessB (s.getD k z0).1 d = true) (hq : q ≤ k) : lessB (s.getD q z0).1 d = true := by
  rcases Nat.lt_or_ge q k with c | c
  · exact less_trans (h.lt' c hk) hl
  · rw [show q = k by omega]; exact hl
theorem Inc.up {s : List Sib} (h : Inc s) {d : Int × Int} {k q : Nat} (hl : lessB (s.getD k z0).1 d = false) (hq : k ≤ q) (hs : q < s.length) : lessB (s.getD q z0).1 d = false := by
  cases e : lessB (s.getD q z0).1 d
  · rfl
  · rw [h.down hs e hq] at hl; cases hl
def Mono (s : List Sib) : Prop := ∀ k, k + 1 < s.length → lessB (s.getD (k + 1) z0).1 (s.getD k z0).1 = false
theorem Inc.mono {s : List Sib} (h : Inc s) : Mono s := fun k hk => less_asymm (h k hk)
theorem le_trans {a b c : Int × Int} (h : lessB b a = false) (k : lessB c b = false) : lessB c a = false := by
  rw [← Bool.not_eq_true, lessB_iff] at *; omega
theorem le_lt {a b c : Int × Int} (h : lessB b a = false) (k : lessB b c = true) : lessB a c = true := by
  rw [← Bool.not_eq_true, lessB_iff] at h
  rw [lessB_iff] at *; omega
theorem Mono.le {s : List Sib} (h : Mono s) : ∀ (n q : Nat), q + n < s.length → lessB (s.getD (q + n) z0).1 (s.getD q z0).1 = false
  | 0, q, _ => less_irrefl _
  | n + 1, q, hq => le_trans (Mono.le h n q (by omega)) (h (q + n) (by omega))
theorem Mono.le' {s : List Sib} (h : Mono s) {q r : Nat} (hq : q ≤ r) (hr : r < s.length) : lessB (s.getD r z0).1 (s.getD q z0).1 = false := by
  have := h.le (r - q) q (by omega)
  rwa [show q + (r - q) = r by omega] at this
theorem Mono.down {s : List Sib} (h : Mono s) {d : Int × Int} {k q : Nat} (hk : k < s.length) (hl : lessB (s.getD k z0).1 d = true) (hq : q ≤ k) : lessB (s.getD q z0).1 d = true := le_lt (h.le' hq hk) hl
theorem Mono.up {s : List Sib} (h : Mono s) {d : Int × Int} {k q : Nat} (hl : lessB (s.getD k z0).1 d = false) (hq : k ≤ q) (hs : q < s.length) : lessB (s.getD q z0).1 d = false := le_trans hl (h.le' hq hs)
def pos : List Sib → Int × Int → Nat
  | [], _ => 0
  | x :: r, d => if lessB x.1 d = true then pos r d + 1 else 0
theorem pos_le : ∀ (s : List Sib) (d : Int × Int), pos s d ≤ s.length
  | [], _ => Nat.le_refl _
  | x :: r, d => by
    unfold pos
    have := pos_le r d
    split <;> simp <;> omega
theorem pos_unique : ∀ (s : List Sib) (d : Int × Int) (i : Nat), i ≤ s.length → (∀ q, q < i → lessB (s.getD q z0).1 d = true) → (i < s.length → lessB (s.getD i z0).1 d = false) → pos s d = i
  | [], _, i, hi, _, _ => by simp at hi; subst hi; rfl
  | x :: r, d, 0, _, _, h2 => by
    have := h2 (by simp)
    unfold pos
    rw [if_neg]
    simpa using this
  | x :: r, d, i + 1, hi, h1, h2 => by
    unfold pos
    rw [if_pos (by simpa using h1 0 (by omega)), pos_unique r d i (by simpa using hi) (fun q hq => by simpa using h1 (q + 1) (by omega)) (fun hq => by simpa using h2 (by simpa using hq))]
theorem pos_less : ∀ (s : List Sib) (d : Int × Int) (q : Nat), q < pos s d → lessB (s.getD q z0).1 d = true
  | [], _, q, h => by unfold pos at h; omega
  | x :: r, d, q, h => by
    unfold pos at h
    by_cases e : lessB x.1 d = true
    · rw [if_pos e] at h
      cases q with
      | zero => simpa using e
      | succ q => simpa using pos_less r d q (by omega)
    · rw [if_neg e] at h; omega
theorem pos_not : ∀ (s : List Sib) (d : Int × Int), pos s d < s.length → lessB (s.getD (pos s d) z0).1 d = false
  | [], _, h => by simp at h
  | x :: r, d, h => by
    by_cases e : lessB x.1 d = true
    · have e2 : pos (x :: r) d = pos r d + 1 := by show (if lessB x.1 d = true then pos r d + 1 else 0) = _; rw [if_pos e]
      rw [e2] at h ⊢
      simpa using pos_not r d (by simpa using h)
    · have e2 : pos (x :: r) d = 0 := by show (if lessB x.1 d = true then pos r d + 1 else 0) = _; rw [if_neg e]
      rw [e2]; simpa using e
def hasDot (s : List Sib) (d : Int × Int) : Bool := s.any fun y => decide (y.1 = d)
def atI : List Sib → Int × Int → Int
  | [], _ => -1
  | x :: r, d => if x.1 = d then 0 else if atI r d = -1 then -1 else atI r d + 1
theorem atI_ge : ∀ (s : List Sib) (d : Int × Int), -1 ≤ atI s d ∧ atI s d < s.length
  | [], _ => by simp [atI]
  | x :: r, d => by
    have := atI_ge r d
    unfold atI
    split
    · simp <;> omega
    · split <;> simp <;> omega
theorem atI_has : ∀ (s : List Sib) (d : Int × Int), hasDot s d = decide (0 ≤ atI s d)
  | [], _ => by simp [hasDot, atI]
  | x :: r, d => by
    have ih := atI_has r d
    have := atI_ge r d
    unfold hasDot at ih ⊢
    unfold atI
    rw [List.any_cons, ih]
    by_cases e : x.1 = d
    · simp [e]
    · simp only [e, decide_false, Bool.false_or, if_false]
      by_cases e2 : atI r d = -1
      · simp [e2]
      · rw [if_neg e2, decide_eq_true (by omega), decide_eq_true (by omega)]
theorem atI_skip {s : List Sib} {d : Int × Int} : ∀ (k : Nat), k ≤ s.length → (∀ q, q < k → ¬ (s.getD q z0).1 = d) → (atI (s.drop k) d = -1 ∧ atI s d = -1) ∨ (0 ≤ atI (s.drop k) d ∧ atI s d = atI (s.drop k) d + k)
  | 0, _, _ => by
    have := atI_ge s d
    rw [List.drop_zero]
    rcases Int.lt_or_le (atI s d) 0 with c | c
    · left; constructor <;> omega
    · right; exact ⟨c, by simp⟩
  | k + 1, hk, h => by
    have hlt : k < s.length := by omega
    have ih := atI_skip k (by omega) (fun q hq => h q (by omega))
    have hn := h k (by omega)
    rw [getD_eq s k hlt] at hn
    have hg := atI_ge (s.drop (k + 1)) d
    have e : s.drop k = s[k] :: s.drop (k + 1) := List.drop_eq_getElem_cons hlt
    rw [e] at ih
    have e2 : atI (s[k] :: s.drop (k + 1)) d = if atI (s.drop (k + 1)) d = -1 then -1 else atI (s.drop (k + 1)) d + 1 := by
      show (if s[k].1 = d then (0 : Int) else if atI (s.drop (k + 1)) d = -1 then -1 else atI (s.drop (k + 1)) d + 1) = _
      rw [if_neg hn]
    rw [e2] at ih
    by_cases c : atI (s.drop (k + 1)) d = -1
    · rw [if_pos c] at ih
      rcases ih with ⟨_, i2⟩ | ⟨i1, _⟩
      · exact .inl ⟨c, i2⟩
      · omega
    · rw [if_neg c] at ih
      rcases ih with ⟨i1, _⟩ | ⟨i1, i2⟩
      · omega
      · right; exact ⟨by omega, by rw [i2]; simp; omega⟩
theorem atI_at {s : List Sib} {d : Int × Int} {k : Nat} (hk : k < s.length) (h : ∀ q, q < k → ¬ (s.getD q z0).1 = d) (e : s[k].1 = d) : atI s d = k := by
  have := atI_skip k (by omega) h
  rw [List.drop_eq_getElem_cons hk] at this
  have e2 : atI (s[k] :: s.drop (k + 1)) d = 0 := by show (if s[k].1 = d then (0 : Int) else _) = 0; rw [if_pos e]
  rw [e2] at this
  omega
theorem atI_none {s : List Sib} {d : Int × Int} (h : ∀ q, q < s.length → ¬ (s.getD q z0).1 = d) : atI s d = -1 := by
  have := atI_skip s.length (Nat.le_refl _) h
  rw [List.drop_length] at this
  rcases this with ⟨_, h2⟩ | ⟨h1, _⟩
  · exact h2
  · have : atI [] d = -1 := rfl
    omega
open Go.RowKit Go.Proofs.YtiaoifodaoifjaaGreat.Mk
set_option maxRecDepth 100000 in
theorem spec_less (a b : Int × Int) (w : World) : Calls Tryz.prog 71 #[mv a, mv b] w fun e w' => e = .returned (.bool (lessB a b)) ∧ Below w.heap.size w w' := by
  obtain ⟨x, y⟩ := a
  obtain ⟨u, v⟩ := b
  unfold mv
  dsimp only
  rcases Int.lt_trichotomy x u with h | h | h
  · have e : lessB (x, y) (u, v) = true := by unfold lessB; simp [h]
    rw [e]; clear e
    go_enter Tryz.func71, Tryz.ntmps71
    go_wp2
    all_goals go_ret
    all_goals exact ⟨rfl, ((Below.refl _ _).alloc (Nat.le_refl _) _).alloc (by simp) _⟩
  · subst h
    have e : lessB (x, y) (x, v) = decide (y < v) := by unfold lessB; simp
    rw [e]; clear e
    by_cases h2 : y < v
    · rw [decide_eq_true h2]
      go_enter Tryz.func71, Tryz.ntmps71
      go_wp2
      all_goals go_ret
      all_goals exact ⟨ret_bool (by simp_all), ((Below.refl _ _).alloc (Nat.le_refl _) _).alloc (by simp) _⟩
    · rw [decide_eq_false h2]
      go_enter Tryz.func71, Tryz.ntmps71
      go_wp2
      all_goals go_ret
      all_goals exact ⟨ret_bool (by simp_all), ((Below.refl _ _).alloc (Nat.le_refl _) _).alloc (by simp) _⟩
  · have e : lessB (x, y) (u, v) = false := by unfold lessB; simp; omega
    have h1 : ¬ x < u := by omega
    have h2 : (x == u) = false := by simp; omega
    rw [e]; clear e
    go_enter Tryz.func71, Tryz.ntmps71
    go_wp2
    all_goals go_ret
    all_goals exact ⟨ret_bool (by simp_all), ((Below.refl _ _).alloc (Nat.le_refl _) _).alloc (by simp) _⟩
theorem toList_size (d : ByteArray) : d.toList = [] ↔ d.size = 0 := by
  rw [ByteArray.toList_eq, Array.toList_eq_nil_iff]
  show d.data = #[] ↔ d.data.size = 0
  rw [Array.size_eq_zero_iff]
theorem empty_no {d : ByteArray} (h : ¬ d.size = 0) : d.toList.isEmpty = false := by
  have : ¬ d.toList = [] := fun q => h ((toList_size d).1 q)
  simpa using this
theorem empty_yes {d : ByteArray} (h : d.size = 0) : d.toList.isEmpty = true := by rw [(toList_size d).2 h]; rfl
set_option maxRecDepth 100000 in
theorem contentRight (d : ByteArray) (g : Bool) (w : World) (hd : d.size ≤ maxLen) : Calls Tryz.prog 81 #[.string d, .bool g] w fun e w' => e = .returned (.bool (contB d g)) ∧ w = w' := by
  unfold maxLen at hd
  by_cases h : d.size ≤ 16
  · have e : contB d g = (!g || decide (d.size = 0)) := by unfold contB; simp [h]
    rw [e]; clear e
    have h' : (d.size : Int) ≤ 16 := by omega
    cases g
    · go_enter Tryz.func81, Tryz.ntmps81
      go_wp2
      all_goals go_ret
      all_goals exact ⟨rfl, rfl⟩
    · by_cases h0 : d.size = 0
      · have h1 : d.toList = [] := (toList_size d).2 h0
        go_enter Tryz.func81, Tryz.ntmps81
        go_wp2
        all_goals go_ret
        all_goals exact ⟨ret_bool (by simp_all), rfl⟩
      · have h1 : ¬ d.toList = [] := fun k => h0 ((toList_size d).1 k)
        go_enter Tryz.func81, Tryz.ntmps81
        go_wp2
        all_goals go_ret
        all_goals exact ⟨ret_bool (by simp_all), rfl⟩
  · have e : contB d g = false := by unfold contB; simp [h]
    have h' : (16 : Int) < (d.size : Int) := by omega
    rw [e]; clear e
    go_enter Tryz.func81, Tryz.ntmps81
    go_wp2
    all_goals go_ret
    all_goals exact ⟨rfl, rfl⟩
open Go.RowKit Go.Proofs.YtiaoifodaoifjaaGreat.Mk Go.Proofs.YtiaoifodaoifjaaGreat.Rw
def cmpI (x y : Int) : Int := if x < y then -1 else if y < x then 1 else 0
set_option maxRecDepth 100000 in
theorem compare (x y : Int) (w : World) : Calls Tryz.prog 113 #[.int .i64 x, .int .i64 y] w fun e w' => e = .returned (.int .i64 (cmpI x y)) ∧ w = w' := by
  unfold cmpI
  rcases Int.lt_trichotomy x y with h | h | h
  · rw [if_pos h]
    go_enter Tryz.func113, Tryz.ntmps113
    go_wp2
    all_goals go_ret
    all_goals exact ⟨rfl, rfl⟩
  · subst h
    rw [if_neg (by omega), if_neg (by omega)]
    go_enter Tryz.func113, Tryz.ntmps113
    go_wp2
    all_goals go_ret
    all_goals exact ⟨rfl, rfl⟩
  · have h1 : ¬ x < y := by omega
    rw [if_neg h1, if_pos h]
    go_enter Tryz.func113, Tryz.ntmps113
    go_wp2
    all_goals go_ret
    all_goals exact ⟨rfl, rfl⟩
def orI (u v : Int) : Int := if u = 0 then v else u
set_option maxRecDepth 100000 in
theorem or2 (g : Nat) (u v : Int) (w : World) (h0 : w.cell? ⟨g, 0, none⟩ = some (.int .i64 u)) (h1 : w.cell? ⟨g, 1, none⟩ = some (.int .i64 v)) :
    Calls Tryz.prog 112 #[.slice (some ⟨g, 0, none⟩) 2 2] w fun e w' => e = .returned (.int .i64 (orI u v)) ∧ w = w' := by
  go_enter Tryz.func112, Tryz.ntmps112
  go_wp2
  go_loop [5, 8] (fun _ i => (i = .int .i64 0) ∨ (i = .int .i64 1 ∧ u = 0) ∨ (i = .int .i64 2 ∧ u = 0 ∧ v = 0)) (fun _ i => 2 - (intOf i).toNat)
  case atStart => exact .inl rfl
  case round =>
    rcases hrel with rfl | ⟨rfl, rfl⟩ | ⟨rfl, rfl, rfl⟩
    · by_cases h : u = 0
      · subst h
        go_wp2
        go_round
        case rel => exact .inr (.inl ⟨rfl, trivial⟩)
        case measure => simp [intOf]
      · have hu : (u == 0) = false := by simpa using h
        go_wp2
        go_ret
        exact ⟨ret_i64 (by unfold orI; rw [if_neg h]), rfl⟩
    · by_cases h : v = 0
      · subst h
        go_wp2
        go_round
        case rel => exact .inr (.inr ⟨rfl, trivial, trivial⟩)
        case measure => simp [intOf]
      · have hu : (v == 0) = false := by simpa using h
        go_wp2
        go_ret
        exact ⟨ret_i64 (by unfold orI; simp), rfl⟩
    · go_wp2
      go_ret
      exact ⟨ret_i64 (by unfold orI; simp), rfl⟩
end Go.Proofs.YtiaoifodaoifjaaGreat.Sb
namespace Go.Proofs.YtiaoifodaoifjaaGreat.Mk
open Go.RowKit Go.Maps
def mdat (m : Int × Int) : DataW Unit := .agg [.lit (.int .i64 m.1), .lit (.int .i64 m.2)]
def markElem : Value → Option (DataW Unit × List MemPlace)
  | .agg cs => match cs.toList with
    | [.int .i64 a, .int .i64 b] => some (mdat (a, b), [])
    | _ => none
  | _ => none
theorem markElem_mk (m : Int × Int) : markElem (mv m) = some (mdat m, []) := rfl
theorem markElem_inv {v : Value} {z : DataW Unit × List MemPlace} (h : markElem v = some z) : ∃ m, v = mv m ∧ z = (mdat m, []) := by
  unfold markElem at h
  split at h
  · rename_i cs
    split at h
    · rename_i a b e
      cases h
      refine ⟨(a, b), ?_, rfl⟩
      unfold mv
      congr 1
      apply Array.ext'
      simpa using e
    · cases h
  · cases h
theorem mdat_inj {m m' : Int × Int} (h : mdat m = mdat m') : m = m' := by
  unfold mdat at h
  simp at h
  exact Prod.ext h.1 h.2
theorem keyed : Keyed Tryz.prog 2 := int_keyed Tryz.underlying2
def MapOf (w : World) (b n : Nat) (f : Int → Option (Int × Int)) : Prop :=
  ∃ D : DataW Unit, w.ownsMap Tryz.prog 2 markElem b n D ∧ (∀ k, Maps.has D (.int .i64 k) = (f k).isSome) ∧ ∀ k, D.atKey (.int .i64 k) (mdat (0, 0)) = mdat (at_ f k)
theorem MapOf.lt {w : World} {b n : Nat} {f : Int → Option (Int × Int)} (h : MapOf w b n f) : b < w.heap.size := let ⟨_, h, _⟩ := h; h.lt
theorem MapOf.mono {w : World} {b n n' : Nat} {f : Int → Option (Int × Int)} (h : MapOf w b n f) (hn : n ≤ n') : MapOf w b n' f := let ⟨D, h, r⟩ := h; ⟨D, h.mono hn, r⟩
theorem MapOf.same {w w' : World} {b n : Nat} {f : Int → Option (Int × Int)} (h : MapOf w b n f) (hs : w'.heap[b]? = w.heap[b]?) : MapOf w' b n f := by
  obtain ⟨D, ⟨es, clock, hb, F, hn, hD⟩, r⟩ := h
  exact ⟨D, ⟨es, clock, hs.trans hb, F, hn, hD⟩, r⟩
theorem MapOf.alloc {w : World} {b n : Nat} {f : Int → Option (Int × Int)} (h : MapOf w b n f) (o : Obj) : MapOf (w.alloc o) b n f := h.same (Below.heap_alloc w o b h.lt)
theorem MapOf.setCell {w : World} {b n : Nat} {f : Int → Option (Int × Int)} (h : MapOf w b n f) (p : Addr) (hp : b ≠ p.block) (u : Value) : MapOf (w.setCell p u) b n f := h.same (Below.heap_setCell w p u b hp)
theorem MapOf.below {w w' : World} {b n : Nat} {f : Int → Option (Int × Int)} (h : MapOf w b n f) (hb : Below w.heap.size w w') : MapOf w' b n f := h.same (hb.block b h.lt)
theorem mapOf_made (w : World) : MapOf (w.alloc (.map #[] 0)) w.heap.size 0 nil :=
  ⟨.map [], World.ownsMap_made w _ _ _, fun _ => rfl, fun _ => rfl⟩
theorem zeroM (w : World) : (zeroValue 63).run Tryz.prog w = .ok (mv (0, 0)) w := by kernel_rfl
theorem MapOf.look {w : World} {b n : Nat} {f : Int → Option (Int × Int)} (h : MapOf w b n f) {k : Int} (hk : (Lit.int .i64 k).wf = true) :
    (Instr.lookup 161 (.map (some b)) (.int .i64 k) false).run Tryz.prog w = .ok (mv (at_ f k)) w := by
  obtain ⟨D, ho, _, hat⟩ := h
  obtain ⟨v, ps, hrun, hv⟩ := ho.lookup keyed Tryz.underlying161 (zeroM w) (markElem_mk (0, 0)) (keyOf_int_mk Tryz.underlying2 hk)
  obtain ⟨m, rfl, hz⟩ := markElem_inv hv
  rw [hat] at hz
  have : at_ f k = m := mdat_inj (congrArg Prod.fst hz)
  rw [this]; exact hrun
theorem field1 (x y : Int) (w : World) : (Instr.field 63 (.agg #[.int .i64 x, .int .i64 y]) 1).run Tryz.prog w = .ok (.int .i64 y) w := by kernel_rfl
theorem lit_ne {a b : Int} (h : a ≠ b) : (Lit.int .i64 a) ≠ .int .i64 b := fun e => h (by injection e)
theorem upd_at (f : Int → Option (Int × Int)) (m : Int × Int) (k : Int) : at_ (upd f m) k = if k = m.1 then m else at_ f k := by
  unfold at_ upd; split <;> rfl
theorem del_at (f : Int → Option (Int × Int)) (j k : Int) : at_ (del f j) k = if k = j then (0, 0) else at_ f k := by
  unfold at_ del; split <;> rfl
theorem turned_within {w w' : World} {b : Nat} (h : w.mapTurned w' b) : Within b (b + 1) w w' := by
  have g := h.grown
  exact ⟨g.os, g.tape, g.output, g.size, fun k hk ho => g.block k hk (fun e => by injection e; omega)⟩
theorem MapOf.store {w : World} {b n : Nat} {f : Int → Option (Int × Int)} (h : MapOf w b n f) (m : Int × Int) (hk : (Lit.int .i64 m.1).wf = true) (hn : n < maxLen) :
    ∃ w', (Instr.mapUpdate 161 (.map (some b)) (.int .i64 m.1) (mv m)).run Tryz.prog w = .ok () w' ∧ MapOf w' b (n + 1) (upd f m) ∧ Within b (b + 1) w w' := by
  obtain ⟨D, ho, hh, hat⟩ := h
  obtain ⟨w', hrun, ho', ht⟩ := ho.store keyed Tryz.underlying161 hn (keyOf_int_mk Tryz.underlying2 hk) (markElem_mk m)
  refine ⟨w', hrun, ⟨_, ho', fun k => ?_, fun k => ?_⟩, turned_within ht⟩
  · by_cases e : k = m.1
    · subst e; rw [has_put_same (k := .int .i64 m.1) ho.isMap trivial]; unfold upd; rw [if_pos rfl]; rfl
    · rw [has_put_other (lit_ne e), hh]; unfold upd; rw [if_neg e]
  · rw [upd_at]
    by_cases e : k = m.1
    · subst e; rw [atKey_put_same (k := .int .i64 m.1) ho.isMap trivial, if_pos rfl]
    · rw [atKey_put_other (lit_ne e), hat, if_neg e]
theorem MapOf.drop {w : World} {b n : Nat} {f : Int → Option (Int × Int)} (h : MapOf w b n f) (k0 : Int) (hk : (Lit.int .i64 k0).wf = true) (ty : TypeId) :
    ∃ w', (Builtin.delete_ #[161, 2] ty #[.map (some b), .int .i64 k0]).run Tryz.prog w = .ok (.tuple #[]) w' ∧ MapOf w' b n (del f k0) ∧ Within b (b + 1) w w' := by
  obtain ⟨D, ho, hh, hat⟩ := h
  obtain ⟨w', hrun, ho', ht⟩ := ho.drop keyed Tryz.underlying161 (keyOf_int_mk Tryz.underlying2 hk) ty
  refine ⟨w', hrun, ⟨_, ho', fun k => ?_, fun k => ?_⟩, turned_within ht⟩
  · by_cases e : k = k0
    · subst e; rw [has_del_same]; unfold del; rw [if_pos rfl]; rfl
    · rw [has_del_other (lit_ne e), hh]; unfold del; rw [if_neg e]
  · rw [del_at]
    by_cases e : k = k0
    · subst e; rw [atKey_del_same, if_pos rfl]
    · rw [atKey_del_other (lit_ne e), hat, if_neg e]
theorem MapOf.len {w : World} {b n : Nat} {f : Int → Option (Int × Int)} (h : MapOf w b n f) (ty : TypeId) :
    ∃ s : Nat, s ≤ n ∧ (Builtin.len_ #[161] ty #[.map (some b)]).run Tryz.prog w = .ok (.int .i64 (s : Int)) w ∧ (s = 0 ↔ ∀ k, f k = none) := by
  obtain ⟨D, ho, hh, hat⟩ := h
  refine ⟨Maps.size D, ho.size_le, ho.len Tryz.underlying161 ty, ?_⟩
  obtain ⟨es, clock, hb, F, hs, rfl⟩ := ho
  constructor
  · intro h0 k
    have h1 := hh k
    generalize (es.toList.map (WideElems.rg Tryz.prog 2 markElem)).foldr DataW.insert [] = L at h0 h1
    have : L = [] := List.length_eq_zero_iff.1 h0
    subst this
    cases hf : f k
    · rfl
    · rw [hf] at h1; cases h1
  · intro h0
    have hk := fit_keys F
    have e1 : Maps.size (DataW.map ((es.toList.map (WideElems.rg Tryz.prog 2 markElem)).foldr DataW.insert [])) = es.toList.length := by simp [Maps.size, length_sorted]
    rw [e1]
    cases hl : es.toList with
    | nil => rfl
    | cons x r =>
      exfalso
      obtain ⟨v, hv⟩ := hk (WideElems.rg Tryz.prog 2 markElem x) (List.mem_map.2 ⟨x, by rw [hl]; simp, rfl⟩)
      obtain ⟨k, _, hk1, _⟩ := Maps.keyOf_int_inv Tryz.underlying2 hv
      have h1 := hh k
      rw [h0 k, hl] at h1
      have h2 : Maps.has (DataW.map (((x :: r).map (WideElems.rg Tryz.prog 2 markElem)).foldr DataW.insert [])) (.int .i64 k) = true := by
        rw [Maps.has_eq, List.map_cons, List.foldr_cons, any_insert, hk1]
        simp [Lit.sameKey]
      rw [h2] at h1
      cases h1
end Go.Proofs.YtiaoifodaoifjaaGreat.Mk
