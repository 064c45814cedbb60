/- Contracts of PutNum of the model and of the program, and of what they call; the law of PutNum over them. No condition. -/
import Derived.Test.YtiaoifodaoifjaaDoorRows
import Derived.Test.YtiaoifodaoifjaaDoorNumMath
import Derived.Test.YtiaoifodaoifjaaDoorBase
import Derived.WalkKit
import Derived.ProofKit
import Derived.OpenShut
import Derived.ShutString
import Derived.Lib.Hide
import Derived.Deep.Light
import Derived.Laws.BitsAllLaws
import Derived.Laws.Bits128
import Derived.Laws.Bits64
import Derived.Laws.BytesArg
import Derived.Laws.IdiomStrings
import Derived.OwnWalk
import Derived.Maps.AppendAt
set_option linter.unusedSimpArgs false
set_option linter.unusedVariables false
namespace Go.Proofs.YtiaoifodaoifjaaDoor.Nu
open Go.RowKit

theorem i64_not_neg (n : Int) (h0 : n < 0) (h1 : -9223372036854775808 ≤ n) : bits .xor .i64 (-1) n = -1 - n := by
  have e : (BitVec.ofInt 64 (-1) ^^^ BitVec.ofInt 64 n) = ~~~ (BitVec.ofInt 64 n) := by
    have : BitVec.ofInt 64 (-1) = BitVec.allOnes 64 := by decide
    rw [this, BitVec.allOnes_xor]
  show IntKind.i64.wrap ((BitVec.ofInt 64 (-1) ^^^ BitVec.ofInt 64 n).toNat : Int) = _
  rw [e, BitVec.toNat_not, BitVec.toNat_ofInt]
  have : n % ((2 ^ 64 : Nat) : Int) = n + 18446744073709551616 := by omega
  rw [this]
  have e2 : ((2 ^ 64 - 1 - (n + 18446744073709551616).toNat : Nat) : Int) = -1 - n := by omega
  rw [e2]
  simp [IntKind.wrap, IntKind.bits, IntKind.signed]; omega
theorem or1_even (k : Nat) (h : k < 9223372036854775808) : bits .or .u64 ((k : Int) * 2) 1 = (k : Int) * 2 + 1 := by
  have h1 := u64_or_nat (k * 2) 1 (by omega) (by omega)
  have h2 : k * 2 ||| 1 = k * 2 + 1 := nat_join 1 (k * 2) 1 (by omega) (by omega)
  rw [h2] at h1
  have e : ((k * 2 : Nat) : Int) = (k : Int) * 2 := by omega
  rw [e] at h1
  rw [show (1 : Int) = ((1 : Nat) : Int) from rfl, h1]; omega

theorem spec_fold (n : Int) (wn : (Lit.int .i64 n).wf = true) (w : World) :
    Calls Tryd.prog 85 #[.int .i64 n] w fun e w' => e = .returned (.int .u64 (fold n : Nat)) ∧ w = w' := by
  have hb := bounds_i64 wn
  by_cases h : n < 0
  all_goals
    go_enter Tryd.func85, Tryd.ntmps85
    go_wp2
    all_goals go_ret
    all_goals (refine ⟨ret_int ?_, rfl⟩; go_light; unfold fold; split <;> omega)
theorem impl_zigzag (n : Int) (wn : (Lit.int .i64 n).wf = true) (w : World) :
    Calls Tryd.prog 69 #[.int .i64 n] w fun e w' => e = .returned (.int .u64 (fold n : Nat)) ∧ w = w' := by
  have hb := bounds_i64 wn
  by_cases h : n < 0
  · obtain ⟨k, hk⟩ : ∃ k : Nat, (k : Int) = -1 - n := ⟨(-1 - n).toNat, by omega⟩
    have hx : bits .xor .i64 (-1) n = (k : Int) := by rw [i64_not_neg n h hb.1, hk]
    have ho := or1_even k (by omega)
    have q1 : IntKind.u64.wrap (k : Int) = k := by rw [IntKind.wrap_u64]; omega
    have q2 : IntKind.u64.wrap ((k : Int) * 2) = (k : Int) * 2 := by rw [IntKind.wrap_u64]; omega
    have HK := Lib.hid hk
    have HB := Lib.hid hb
    clear hk hb
    go_enter Tryd.func69, Tryd.ntmps69
    go_wp2
    all_goals go_ret
    all_goals (refine ⟨ret_int ?_, rfl⟩; go_light; have := HK.out; have := HB.out; unfold fold; split <;> omega)
  · go_enter Tryd.func69, Tryd.ntmps69
    go_wp2
    all_goals go_ret
    all_goals (refine ⟨ret_int ?_, rfl⟩; go_light; unfold fold; split <;> omega)

/-- u' is what is left of a 64-bit number behind k bytes -/
def Rest (u' k : Nat) : Prop := u' * 128 ^ k < 18446744073709551616
theorem Rest.lt {u' k : Nat} (h : Rest u' k) : u' < 18446744073709551616 :=
  Nat.lt_of_le_of_lt (Nat.le_mul_of_pos_right u' (Nat.pow_pos (by omega))) h
theorem Rest.div {u' k : Nat} (h : Rest u' k) : IntKind.u64.wrap ((u' : Int) / 128) = (u' : Int) / 128 := by
  have := h.lt
  rw [IntKind.wrap_u64]; omega
def zeros : List UInt8 := [0, 0, 0, 0, 0, 0, 0, 0, 0, 0]

theorem arr10 : Tryd.prog.arrayLen 104 = 10 := by kernel_rfl
theorem size8 (W : World) : (sizeOf (Tryd.prog.elem 104)).run Tryd.prog W = .ok 1 W := by kernel_rfl
theorem slice10 (g k : Nat) (hk : k ≤ 9) (W : World) :
    (Instr.sliceAt 104 (.pointer (some ⟨g, 0, none⟩)) none (some (.int .i64 ((k : Int) + 1))) none).run Tryd.prog W = .ok (.slice (some ⟨g, 0, none⟩) (k + 1) 10) W := by
  rw [run_sliceAt_array_h W 104 _ (by kernel_rfl) .i64 ((k : Int) + 1) (by omega) (by rw [arr10]; omega), size8, arr10]
  simp [slicedAt, Addr.add]
set_option maxRecDepth 10000 in
theorem or128 (u' : Nat) : bits .or .u8 ((u' : Int) % 256) 128 = ((u' % 128 + 128 : Nat) : Int) := by
  have h1 := u8_or_nat (u' % 256) 128 (by omega) (by omega)
  have h2 : ∀ a : Fin 256, a.val ||| 128 = a.val % 128 + 128 := by decide
  have h3 := h2 ⟨u' % 256, by omega⟩
  simp only at h3
  rw [h3, show u' % 256 % 128 = u' % 128 by omega] at h1
  rw [← h1]; rfl
/-- the first cells of a new array are zeros -/
theorem arr_new (w : World) : Arr (w.alloc (.cells #[.int .u8 0, .int .u8 0, .int .u8 0, .int .u8 0, .int .u8 0, .int .u8 0, .int .u8 0, .int .u8 0, .int .u8 0, .int .u8 0] 104)) w.heap.size zeros := by
  constructor
  · intro j hj
    have : j < 10 := hj
    rw [World.cell?_alloc_mark]
    match j, this with
    | 0, _ | 1, _ | 2, _ | 3, _ | 4, _ | 5, _ | 6, _ | 7, _ | 8, _ | 9, _ => rfl
  · intro j
    rw [World.frozen?_alloc_mark]; simp

set_option maxRecDepth 100000 in
set_option maxHeartbeats 1000000 in
theorem impl_PutNum (n : Int) (wn : (Lit.int .i64 n).wf = true) (w : World) :
    Calls Tryd.prog 49 #[.int .i64 n] w fun e w' => e = .returned (.string ⟨(enc (fold n)).toArray⟩) ∧ Below w.heap.size w w' := by
  have hb := bounds_i64 wn
  have hu := fold_lt n hb
  have HU := Lib.hid hu
  clear hu hb
  go_enter Tryd.func49, Tryd.ntmps49
  go_wp2_with (go_at_call 69; refine (impl_zigzag n wn _).mono ?_; rintro e w' ⟨rfl, rfl⟩)
  go_loopw [4, 5] (fun u i wr => ∃ (u' k : Nat) (l : List UInt8), u = .int .u64 u' ∧ i = .int .i64 k ∧ l.length = 10 ∧ Rest u' k ∧ k ≤ 9 ∧ l.take k ++ enc u' = enc (fold n) ∧ Arr wr w.heap.size l ∧ Below w.heap.size w wr) (fun u _ _ => (intOf u).toNat)
  case atStart =>
    exact ⟨fold n, 0, zeros, rfl, rfl, rfl, by unfold Rest; simpa using HU.out, by omega, by simp, arr_new w, (Below.refl _ _).alloc (Nat.le_refl _) _⟩
  case round =>
    obtain ⟨u', k, l, rfl, rfl, hl, hlt, hk9, hen, harr, hbel⟩ := hrel
    have HL := Lib.hid hl
    have HT := Lib.hid hlt
    have HE := Lib.hid hen
    have HA := Lib.hid harr
    clear hl hlt hen harr
    have c1 := HA.out.cell k (by rw [HL.out]; omega)
    have c2 := HA.out.free k
    generalize l[k]'(by rw [HL.out]; omega) = lk at c1
    clear wn
    by_cases h8 : u' < 128
    · have hs := slice10 w.heap.size k hk9
      have hv := bv_of u' (by omega)
      have ha := HA.out.set k (by rw [HL.out]; omega) (UInt8.ofNat u')
      rw [← hv] at ha
      have hc := ha.string (k + 1) 10 (by rw [List.length_set, HL.out]; omega)
      rw [take_set _ _ (by rw [HL.out]; omega), last_bytes _ _ _ HE.out h8] at hc
      clear hv ha
      go_wp2
      go_ret
      exact ⟨rfl, hbel.setCell (Nat.le_refl _) _⟩
    · have ho := or128 u'
      have h9 := left_lt u' k HT.out (by omega)
      go_wp2
      go_roundw
      case rel =>
        refine ⟨u' / 128, k + 1, l.set k (UInt8.ofNat (u' % 128 + 128)), rfl, by go_num, ?_, left_next _ _ HT.out, by omega, ?_, ?_, hbel.setCell (Nat.le_refl _) _⟩
        · rw [List.length_set]; exact HL.out
        · rw [take_set _ _ (by rw [HL.out]; omega)]; exact step_bytes _ _ _ HE.out h8
        · show Arr (wr.setCell _ (.int .u8 ((u' % 128 + 128 : Nat) : Int))) _ _
          rw [bv_of _ (by omega)]; exact HA.out.set k (by rw [HL.out]; omega) _
      case measure => go_light; simp [intOf]; omega

set_option maxRecDepth 100000 in
set_option maxHeartbeats 1000000 in
theorem spec_PutNum (n : Int) (wn : (Lit.int .i64 n).wf = true) (w : World) :
    Calls Tryd.prog 79 #[.int .i64 n] w fun e w' => e = .returned (.string ⟨(enc (fold n)).toArray⟩) ∧ Below w.heap.size w w' := by
  have hb := bounds_i64 wn
  have hu := fold_lt n hb
  have HU := Lib.hid hu
  clear hu hb
  obtain ⟨i0, hi, hz0, hz1, hz2⟩ := info_parts info8
  go_enter Tryd.func79, Tryd.ntmps79
  go_wp2_with (go_at_call 85; refine (spec_fold n wn _).mono ?_; rintro e w' ⟨rfl, rfl⟩)
  go_loopw [3, 4] (fun u v wr => ∃ (u' : Nat) (acc : List UInt8), u = .int .u64 u' ∧ Rest u' acc.length ∧ acc ++ enc u' = enc (fold n) ∧ wr.ownsRow w.heap.size 5 1 v acc.length (acc.map bv) ∧ Below w.heap.size w wr) (fun u _ _ => (intOf u).toNat)
  case atStart =>
    exact ⟨fold n, [], rfl, by unfold Rest; simpa using HU.out, rfl, World.ownsRow_made w #[] 0 (Nat.le_refl _) (by unfold maxLen; omega) rfl, (Below.refl _ _).alloc (Nat.le_refl _) _⟩
  case round =>
    obtain ⟨u', acc, rfl, hlt, hen, hown, hbel⟩ := hrel
    have HT := Lib.hid hlt
    have HE := Lib.hid hen
    have HO := Lib.hid hown
    clear hlt hen hown
    have ha10 : acc.length < 10 := by
      have h1 := congrArg List.length HE.out
      rw [List.length_append] at h1
      have h2 := enc_len10 _ HU.out
      have h3 := enc_pos u'
      omega
    have hz := hbel.size
    by_cases h8 : u' < 128
    · go_wp2_with (at_builtin; refine wpList_append_own _ rfl _ _ 22 rfl w.heap.size 5 i0 (.int .u8 0) 1 1 Tryd.underlying22 hi hz0 hz1 hz2 rfl (by decide) _ _ _ rfl (HO.out.alloc _) ⟨wr.heap.size, 0, none⟩ 1 1 [.int .u8 (u' : Int)] rfl rfl ?c1 ?c2 ?c3 ?c4 ?c5 ?_)
      case c1 => exact cell_one_new _ _ _
      case c2 => intro u hu; simp at hu; subst hu; rfl
      case c3 => unfold maxLen; omega
      case c4 => omega
      case c5 => simp; omega
      intro v' w1 hown1 hgrow1 _
      have hv := bv_of u' (by omega)
      rw [hv, show acc.map bv ++ [bv (UInt8.ofNat u')] = (acc ++ [UInt8.ofNat u']).map bv by simp] at hown1
      have hc := own_string hown1
      rw [last_bytes _ _ _ HE.out h8] at hc
      have hb1 : Below w.heap.size w w1 := (hbel.alloc hz _).grown hgrow1 (by simp; omega) (fun k hk => (HO.out.lt k hk).1)
      clear hv hown1 hgrow1
      go_wp2
      go_ret
      exact ⟨rfl, hb1⟩
    · have hdv := HT.out.div
      go_wp2_with (at_builtin; refine wpList_append_own _ rfl _ _ 22 rfl w.heap.size 5 i0 (.int .u8 0) 1 1 Tryd.underlying22 hi hz0 hz1 hz2 rfl (by decide) _ _ _ rfl (HO.out.alloc _) ⟨wr.heap.size, 0, none⟩ 1 1 [.int .u8 ((u' % 128 + 128 : Nat) : Int)] rfl rfl ?d1 ?d2 ?d3 ?d4 ?d5 ?_)
      case d1 => exact cell_one_new _ _ _
      case d2 => intro u hu; simp at hu; subst hu; rfl
      case d3 => unfold maxLen; omega
      case d4 => omega
      case d5 => simp; omega
      intro v' w1 hown1 hgrow1 _
      rw [show Value.int .u8 ((u' : Int) % 128 + 128) = bv (UInt8.ofNat (u' % 128 + 128)) from bv_of (u' % 128 + 128) (by omega), show acc.map bv ++ [bv (UInt8.ofNat (u' % 128 + 128))] = (acc ++ [UInt8.ofNat (u' % 128 + 128)]).map bv by simp] at hown1
      have hb1 : Below w.heap.size w w1 := (hbel.alloc hz _).grown hgrow1 (by simp; omega) (fun k hk => (HO.out.lt k hk).1)
      have HO1 := Lib.hid hown1
      clear hown1 hgrow1
      go_wp2
      go_roundw
      case rel =>
        refine ⟨u' / 128, acc ++ [UInt8.ofNat (u' % 128 + 128)], rfl, ?_, step_bytes _ _ _ HE.out h8, ?_, hb1⟩
        · rw [List.length_append]; exact left_next _ _ HT.out
        · rw [List.length_append]; exact HO1.out
      case measure => go_light; simp [intOf]; omega

end Go.Proofs.YtiaoifodaoifjaaDoor.Nu
