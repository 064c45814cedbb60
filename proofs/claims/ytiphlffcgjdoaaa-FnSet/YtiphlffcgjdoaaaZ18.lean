/- Parts of a law: Num, SeenBytesS, SeenDraw3, SeenDraw4, SeenDraw5, Text, SetBytesMath. Conditions: on sizes, as each says. -/
import Derived.Test.YtiphlffcgjdoaaaZ1
import Derived.Test.YtiphlffcgjdoaaaRows
import Derived.WalkKit
import Derived.ProofKit
import Derived.OpenShut
import Derived.ShutString
import Derived.Lib.Hide
import Derived.Deep.Light
import Derived.Laws.BitsAllLaws
import Derived.Laws.Bits128
import Derived.Laws.Bits64
import Derived.Laws.BytesArg
import Derived.Laws.IdiomStrings
import Derived.OwnWalk
import Derived.Maps.AppendAt
import Derived.WalkArith
import Derived.Test.YtiphlffcgjdoaaaZ6
import Derived.Test.YtiphlffcgjdoaaaZ7
import Derived.Test.YtiphlffcgjdoaaaZ15
import Derived.Test.YtiphlffcgjdoaaaZ2
set_option linter.unusedSimpArgs false
set_option linter.unusedVariables false
namespace Go.Proofs.Ytiphlffcgjdoaaa.Nu
open Go.RowKit

theorem i64_not_neg (n : Int) (h0 : n < 0) (h1 : -9223372036854775808 ≤ n) : bits .xor .i64 (-1) n = -1 - n := by
  have e : (BitVec.ofInt 64 (-1) ^^^ BitVec.ofInt 64 n) = ~~~ (BitVec.ofInt 64 n) := by
    have : BitVec.ofInt 64 (-1) = BitVec.allOnes 64 := by decide
    rw [this, BitVec.allOnes_xor]
  show IntKind.i64.wrap ((BitVec.ofInt 64 (-1) ^^^ BitVec.ofInt 64 n).toNat : Int) = _
  rw [e, BitVec.toNat_not, BitVec.toNat_ofInt]
  have : n % ((2 ^ 64 : Nat) : Int) = n + 18446744073709551616 := by omega
  rw [this]
  have e2 : ((2 ^ 64 - 1 - (n + 18446744073709551616).toNat : Nat) : Int) = -1 - n := by omega
  rw [e2]
  simp [IntKind.wrap, IntKind.bits, IntKind.signed]; omega
theorem or1_even (k : Nat) (h : k < 9223372036854775808) : bits .or .u64 ((k : Int) * 2) 1 = (k : Int) * 2 + 1 := by
  have h1 := u64_or_nat (k * 2) 1 (by omega) (by omega)
  have h2 : k * 2 ||| 1 = k * 2 + 1 := nat_join 1 (k * 2) 1 (by omega) (by omega)
  rw [h2] at h1
  have e : ((k * 2 : Nat) : Int) = (k : Int) * 2 := by omega
  rw [e] at h1
  rw [show (1 : Int) = ((1 : Nat) : Int) from rfl, h1]; omega

theorem spec_fold (n : Int) (wn : (Lit.int .i64 n).wf = true) (w : World) :
    Calls Try.prog 100 #[.int .i64 n] w fun e w' => e = .returned (.int .u64 (fold n : Nat)) ∧ w = w' := by
  have hb := bounds_i64 wn
  by_cases h : n < 0
  all_goals
    go_enter Try.func100, Try.ntmps100
    go_wp2
    all_goals go_ret
    all_goals (refine ⟨ret_int ?_, rfl⟩; go_light; unfold fold; split <;> omega)
theorem impl_zigzag (n : Int) (wn : (Lit.int .i64 n).wf = true) (w : World) :
    Calls Try.prog 81 #[.int .i64 n] w fun e w' => e = .returned (.int .u64 (fold n : Nat)) ∧ w = w' := by
  have hb := bounds_i64 wn
  by_cases h : n < 0
  · obtain ⟨k, hk⟩ : ∃ k : Nat, (k : Int) = -1 - n := ⟨(-1 - n).toNat, by omega⟩
    have hx : bits .xor .i64 (-1) n = (k : Int) := by rw [i64_not_neg n h hb.1, hk]
    have ho := or1_even k (by omega)
    have q1 : IntKind.u64.wrap (k : Int) = k := by rw [IntKind.wrap_u64]; omega
    have q2 : IntKind.u64.wrap ((k : Int) * 2) = (k : Int) * 2 := by rw [IntKind.wrap_u64]; omega
    have HK := Lib.hid hk
    have HB := Lib.hid hb
    clear hk hb
    go_enter Try.func81, Try.ntmps81
    go_wp2
    all_goals go_ret
    all_goals (refine ⟨ret_int ?_, rfl⟩; go_light; have := HK.out; have := HB.out; unfold fold; split <;> omega)
  · go_enter Try.func81, Try.ntmps81
    go_wp2
    all_goals go_ret
    all_goals (refine ⟨ret_int ?_, rfl⟩; go_light; unfold fold; split <;> omega)

/-- u' is what is left of a 64-bit number behind k bytes -/
def Rest (u' k : Nat) : Prop := u' * 128 ^ k < 18446744073709551616
theorem Rest.lt {u' k : Nat} (h : Rest u' k) : u' < 18446744073709551616 :=
  Nat.lt_of_le_of_lt (Nat.le_mul_of_pos_right u' (Nat.pow_pos (by omega))) h
theorem Rest.div {u' k : Nat} (h : Rest u' k) : IntKind.u64.wrap ((u' : Int) / 128) = (u' : Int) / 128 := by
  have := h.lt
  rw [IntKind.wrap_u64]; omega
def zeros : List UInt8 := [0, 0, 0, 0, 0, 0, 0, 0, 0, 0]

theorem arr10 : Try.prog.arrayLen 115 = 10 := by kernel_rfl
theorem size8 (W : World) : (sizeOf (Try.prog.elem 115)).run Try.prog W = .ok 1 W := by kernel_rfl
theorem slice10 (g k : Nat) (hk : k ≤ 9) (W : World) :
    (Instr.sliceAt 115 (.pointer (some ⟨g, 0, none⟩)) none (some (.int .i64 ((k : Int) + 1))) none).run Try.prog W = .ok (.slice (some ⟨g, 0, none⟩) (k + 1) 10) W := by
  rw [run_sliceAt_array_h W 115 _ (by kernel_rfl) .i64 ((k : Int) + 1) (by omega) (by rw [arr10]; omega), size8, arr10]
  simp [slicedAt, Addr.add]
set_option maxRecDepth 10000 in
theorem or128 (u' : Nat) : bits .or .u8 ((u' : Int) % 256) 128 = ((u' % 128 + 128 : Nat) : Int) := by
  have h1 := u8_or_nat (u' % 256) 128 (by omega) (by omega)
  have h2 : ∀ a : Fin 256, a.val ||| 128 = a.val % 128 + 128 := by decide
  have h3 := h2 ⟨u' % 256, by omega⟩
  simp only at h3
  rw [h3, show u' % 256 % 128 = u' % 128 by omega] at h1
  rw [← h1]; rfl
/-- the first cells of a new array are zeros -/
theorem arr_new (w : World) : Arr (w.alloc (.cells #[.int .u8 0, .int .u8 0, .int .u8 0, .int .u8 0, .int .u8 0, .int .u8 0, .int .u8 0, .int .u8 0, .int .u8 0, .int .u8 0] 115)) w.heap.size zeros := by
  constructor
  · intro j hj
    have : j < 10 := hj
    rw [World.cell?_alloc_mark]
    match j, this with
    | 0, _ | 1, _ | 2, _ | 3, _ | 4, _ | 5, _ | 6, _ | 7, _ | 8, _ | 9, _ => rfl
  · intro j
    rw [World.frozen?_alloc_mark]; simp

set_option maxRecDepth 100000 in
set_option maxHeartbeats 1000000 in
theorem impl_PutNum (n : Int) (wn : (Lit.int .i64 n).wf = true) (w : World) :
    Calls Try.prog 47 #[.int .i64 n] w fun e w' => e = .returned (.string ⟨(enc (fold n)).toArray⟩) ∧ Below w.heap.size w w' := by
  have hb := bounds_i64 wn
  have hu := fold_lt n hb
  have HU := Lib.hid hu
  clear hu hb
  go_enter Try.func47, Try.ntmps47
  go_wp2_with (go_at_call 81; refine (impl_zigzag n wn _).mono ?_; rintro e w' ⟨rfl, rfl⟩)
  go_loopw [4, 5] (fun u i wr => ∃ (u' k : Nat) (l : List UInt8), u = .int .u64 u' ∧ i = .int .i64 k ∧ l.length = 10 ∧ Rest u' k ∧ k ≤ 9 ∧ l.take k ++ enc u' = enc (fold n) ∧ Arr wr w.heap.size l ∧ Below w.heap.size w wr) (fun u _ _ => (intOf u).toNat)
  case atStart =>
    exact ⟨fold n, 0, zeros, rfl, rfl, rfl, by unfold Rest; simpa using HU.out, by omega, by simp, arr_new w, (Below.refl _ _).alloc (Nat.le_refl _) _⟩
  case round =>
    obtain ⟨u', k, l, rfl, rfl, hl, hlt, hk9, hen, harr, hbel⟩ := hrel
    have HL := Lib.hid hl
    have HT := Lib.hid hlt
    have HE := Lib.hid hen
    have HA := Lib.hid harr
    clear hl hlt hen harr
    have c1 := HA.out.cell k (by rw [HL.out]; omega)
    have c2 := HA.out.free k
    generalize l[k]'(by rw [HL.out]; omega) = lk at c1
    clear wn
    by_cases h8 : u' < 128
    · have hs := slice10 w.heap.size k hk9
      have hv := bv_of u' (by omega)
      have ha := HA.out.set k (by rw [HL.out]; omega) (UInt8.ofNat u')
      rw [← hv] at ha
      have hc := ha.string (k + 1) 10 (by rw [List.length_set, HL.out]; omega)
      rw [take_set _ _ (by rw [HL.out]; omega), last_bytes _ _ _ HE.out h8] at hc
      clear hv ha
      go_wp2
      go_ret
      exact ⟨rfl, hbel.setCell (Nat.le_refl _) _⟩
    · have ho := or128 u'
      have h9 := left_lt u' k HT.out (by omega)
      go_wp2
      go_roundw
      case rel =>
        refine ⟨u' / 128, k + 1, l.set k (UInt8.ofNat (u' % 128 + 128)), rfl, by go_num, ?_, left_next _ _ HT.out, by omega, ?_, ?_, hbel.setCell (Nat.le_refl _) _⟩
        · rw [List.length_set]; exact HL.out
        · rw [take_set _ _ (by rw [HL.out]; omega)]; exact step_bytes _ _ _ HE.out h8
        · show Arr (wr.setCell _ (.int .u8 ((u' % 128 + 128 : Nat) : Int))) _ _
          rw [bv_of _ (by omega)]; exact HA.out.set k (by rw [HL.out]; omega) _
      case measure => go_light; simp [intOf]; omega

set_option maxRecDepth 100000 in
set_option maxHeartbeats 1000000 in
theorem spec_PutNum (n : Int) (wn : (Lit.int .i64 n).wf = true) (w : World) :
    Calls Try.prog 89 #[.int .i64 n] w fun e w' => e = .returned (.string ⟨(enc (fold n)).toArray⟩) ∧ Below w.heap.size w w' := by
  have hb := bounds_i64 wn
  have hu := fold_lt n hb
  have HU := Lib.hid hu
  clear hu hb
  obtain ⟨i0, hi, hz0, hz1, hz2⟩ := info_parts info8
  go_enter Try.func89, Try.ntmps89
  go_wp2_with (go_at_call 100; refine (spec_fold n wn _).mono ?_; rintro e w' ⟨rfl, rfl⟩)
  go_loopw [3, 4] (fun u v wr => ∃ (u' : Nat) (acc : List UInt8), u = .int .u64 u' ∧ Rest u' acc.length ∧ acc ++ enc u' = enc (fold n) ∧ wr.ownsRow w.heap.size 5 1 v acc.length (acc.map bv) ∧ Below w.heap.size w wr) (fun u _ _ => (intOf u).toNat)
  case atStart =>
    exact ⟨fold n, [], rfl, by unfold Rest; simpa using HU.out, rfl, World.ownsRow_made w #[] 0 (Nat.le_refl _) (by unfold maxLen; omega) rfl, (Below.refl _ _).alloc (Nat.le_refl _) _⟩
  case round =>
    obtain ⟨u', acc, rfl, hlt, hen, hown, hbel⟩ := hrel
    have HT := Lib.hid hlt
    have HE := Lib.hid hen
    have HO := Lib.hid hown
    clear hlt hen hown
    have ha10 : acc.length < 10 := by
      have h1 := congrArg List.length HE.out
      rw [List.length_append] at h1
      have h2 := enc_len10 _ HU.out
      have h3 := enc_pos u'
      omega
    have hz := hbel.size
    by_cases h8 : u' < 128
    · go_wp2_with (at_builtin; refine wpList_append_own _ rfl _ _ 22 rfl w.heap.size 5 i0 (.int .u8 0) 1 1 Try.underlying22 hi hz0 hz1 hz2 rfl (by decide) _ _ _ rfl (HO.out.alloc _) ⟨wr.heap.size, 0, none⟩ 1 1 [.int .u8 (u' : Int)] rfl rfl ?c1 ?c2 ?c3 ?c4 ?c5 ?_)
      case c1 => exact cell_one_new _ _ _
      case c2 => intro u hu; simp at hu; subst hu; rfl
      case c3 => unfold maxLen; omega
      case c4 => omega
      case c5 => simp; omega
      intro v' w1 hown1 hgrow1 _
      have hv := bv_of u' (by omega)
      rw [hv, show acc.map bv ++ [bv (UInt8.ofNat u')] = (acc ++ [UInt8.ofNat u']).map bv by simp] at hown1
      have hc := own_string hown1
      rw [last_bytes _ _ _ HE.out h8] at hc
      have hb1 : Below w.heap.size w w1 := (hbel.alloc hz _).grown hgrow1 (by simp; omega) (fun k hk => (HO.out.lt k hk).1)
      clear hv hown1 hgrow1
      go_wp2
      go_ret
      exact ⟨rfl, hb1⟩
    · have hdv := HT.out.div
      go_wp2_with (at_builtin; refine wpList_append_own _ rfl _ _ 22 rfl w.heap.size 5 i0 (.int .u8 0) 1 1 Try.underlying22 hi hz0 hz1 hz2 rfl (by decide) _ _ _ rfl (HO.out.alloc _) ⟨wr.heap.size, 0, none⟩ 1 1 [.int .u8 ((u' % 128 + 128 : Nat) : Int)] rfl rfl ?d1 ?d2 ?d3 ?d4 ?d5 ?_)
      case d1 => exact cell_one_new _ _ _
      case d2 => intro u hu; simp at hu; subst hu; rfl
      case d3 => unfold maxLen; omega
      case d4 => omega
      case d5 => simp; omega
      intro v' w1 hown1 hgrow1 _
      rw [show Value.int .u8 ((u' : Int) % 128 + 128) = bv (UInt8.ofNat (u' % 128 + 128)) from bv_of (u' % 128 + 128) (by omega), show acc.map bv ++ [bv (UInt8.ofNat (u' % 128 + 128))] = (acc ++ [UInt8.ofNat (u' % 128 + 128)]).map bv by simp] at hown1
      have hb1 : Below w.heap.size w w1 := (hbel.alloc hz _).grown hgrow1 (by simp; omega) (fun k hk => (HO.out.lt k hk).1)
      have HO1 := Lib.hid hown1
      clear hown1 hgrow1
      go_wp2
      go_roundw
      case rel =>
        refine ⟨u' / 128, acc ++ [UInt8.ofNat (u' % 128 + 128)], rfl, ?_, step_bytes _ _ _ HE.out h8, ?_, hb1⟩
        · rw [List.length_append]; exact left_next _ _ HT.out
        · rw [List.length_append]; exact HO1.out
      case measure => go_light; simp [intOf]; omega

end Go.Proofs.Ytiphlffcgjdoaaa.Nu

namespace Go.Proofs.Ytiphlffcgjdoaaa.Mk
open Go.RowKit

theorem ret_str {a b : ByteArray} (h : a = b) : Ending.returned (.string a) = .returned (.string b) := by rw [h]
theorem wf_dot {m : Int × Int} (h : dotB m = true) : (Lit.int .i64 m.1).wf = true ∧ (Lit.int .i64 m.2).wf = true := by
  have := (dotB_iff m).1 h
  exact ⟨WalkArith.wf_i64 (by omega), WalkArith.wf_i64 (by omega)⟩
set_option maxRecDepth 100000 in
set_option maxHeartbeats 2000000 in
theorem spec_bytes (a : Option Addr) (cap : Nat) (l : List (Int × Int)) (w : World) (hr : rightB l = true) (h : MarksAt w a l) :
    Calls Try.prog 88 #[.slice a l.length cap] w fun e w' => e = .returned (.string (bytesV l)) ∧ Below w.heap.size w w' := by
  have H := Lib.hid h
  have HR := Lib.hid hr
  have h5 := right_len hr
  clear h hr
  go_enter Try.func88, Try.ntmps88
  go_wp2_with fail
  refine (Nu.spec_PutNum (l.length : Int) (WalkArith.wf_i64 (by omega)) _).mono ?_
  rintro e w0 ⟨rfl, hb0⟩
  rw [Nu.numS_mk]
  have HB0 := Lib.hid hb0
  clear hb0
  go_wp2
  go_loopw [3, 4] (fun z i wr => ∃ (k : Nat) (t : ByteArray), k ≤ l.length ∧ i = .int .i64 k ∧ z = .string t ∧ upTo l k t ∧ Below w.heap.size w wr) (fun _ i _ => l.length - (intOf i).toNat)
  case atStart => exact ⟨0, _, Nat.zero_le _, rfl, rfl, upTo_zero l h5, HB0.out⟩
  case round =>
    obtain ⟨k, t, hk, rfl, rfl, ht, hbel⟩ := hrel
    have HT := Lib.hid ht
    have hts := ht.2
    have HB := Lib.hid hbel
    clear ht hbel
    by_cases hlt : k < l.length
    · obtain ⟨g, off, rfl, hg, c0, c1⟩ := (H.out.mono HB.out).cells hlt
      have hd := right_dot HR.out _ (List.getElem_mem hlt)
      have HN := Lib.hid (upTo_next HT.out hlt hd)
      have hw := wf_dot hd
      have hm := (dotB_iff _).1 hd
      clear hd
      generalize l[k] = m at c0 c1 HN hw hm
      obtain ⟨x, y⟩ := m
      simp only at c0 c1 HN hw hm
      have Wx := Lib.hid hw.1
      have Wy := Lib.hid hw.2
      have sx := Nu.numS_size_of x (by omega)
      have sy := Nu.numS_size_of y (by omega)
      have i0 : (0 : Int) ≤ (k : Int) := by omega
      have i1 : (k : Int) < (l.length : Int) := by omega
      have z1 : ¬ 9223372036854775807 < t.size + (Nu.numS x).size := by omega
      have z2 : ¬ 9223372036854775807 < t.size + (Nu.numS x).size + (Nu.numS y).size := by omega
      clear hw
      go_wp2_with fail
      refine wp_region_held_drew (S := (fun w' => w'.cell? ⟨g, off + k * 2, none⟩ = some (.int .i64 x) ∧ w'.cell? ⟨g, off + k * 2 + 1, none⟩ = some (.int .i64 y) ∧ g < w'.heap.size)) (by kernel_rfl) (by first | exact ⟨c0, c1, hg⟩ | (go_split_ands; refine ⟨?_, ?_, ?_⟩; (rw [hb.cell (by assumption)]; assumption); (rw [hb.cell (by assumption)]; assumption); (have := hb.size; omega))) (fun hHeld => ?_)
      refine tk 0 (v := ?_) ?_
      try simp only [Act.put, n1, n2, n3, n4, n5, n6]
      refine tk 1 (v := ?_) ?_
      try simp only [Act.put, n1, n2, n3, n4, n5, n6]
      refine tk 2 (v := ?_) ?_
      try simp only [Act.put, n1, n2, n3, n4, n5, n6]
      refine tk 3 (v := ?_) ?_
      try simp only [Act.put, n1, n2, n3, n4, n5, n6]
      refine tk 4 (v := ?_) ?_
      try simp only [Act.put, n1, n2, n3, n4, n5, n6]
      refine tk 5 (v := ?_) ?_
      try simp only [Act.put, n1, n2, n3, n4, n5, n6]
      refine tk 8 (v := ?_) ?_
      try simp only [Act.put, n1, n2, n3, n4, n5, n6]
      refine tk 9 (v := ?_) ?_
      try simp only [Act.put, n1, n2, n3, n4, n5, n6]
      refine tk 10 (v := ?_) ?_
      try simp only [Act.put, n1, n2, n3, n4, n5, n6]
      refine tk 11 (v := ?_) ?_
      try simp only [Act.put, n1, n2, n3, n4, n5, n6]
      refine tk 12 (v := ?_) ?_
      try simp only [Act.put, n1, n2, n3, n4, n5, n6]
      refine wpAnyH_ready (rs := [6]) (by kernel_rfl) (by simp) ?_
      refine AllReadyH.cons rfl (fun K hK => ?_) AllReadyH.nil
      go_simp
      go_at_call 89; refine (Nu.spec_PutNum x Wx.out _).mono ?_; rintro e w1 ⟨rfl, hb⟩; rw [Nu.numS_mk]; have HB1 := Lib.hid (HB.out.drew.trans (hb.mono HB.out.size))
      go_wp2_with fail
      refine hK.out _ _ (by first | exact ⟨c0, c1, hg⟩ | (go_split_ands; refine ⟨?_, ?_, ?_⟩; (rw [hb.cell (by assumption)]; assumption); (rw [hb.cell (by assumption)]; assumption); (have := hb.size; omega))) (fun hHeld => ?_)
      clear hK K
      try simp only [Act.put, n1, n2, n3, n4, n5, n6]
      refine tk 7 (v := ?_) ?_
      try simp only [Act.put, n1, n2, n3, n4, n5, n6]
      refine wpAnyH_ready (rs := [13]) (by kernel_rfl) (by simp) ?_
      refine AllReadyH.cons rfl (fun K hK => ?_) AllReadyH.nil
      go_simp
      go_at_call 89; refine (Nu.spec_PutNum y Wy.out _).mono ?_; rintro e w2 ⟨rfl, hb⟩; rw [Nu.numS_mk]; have HB2 := Lib.hid (HB1.out.trans (hb.mono HB1.out.size))
      go_wp2_with fail
      refine hK.out _ _ (by first | exact ⟨c0, c1, hg⟩ | (go_split_ands; refine ⟨?_, ?_, ?_⟩; (rw [hb.cell (by assumption)]; assumption); (rw [hb.cell (by assumption)]; assumption); (have := hb.size; omega))) (fun hHeld => ?_)
      clear hK K
      try simp only [Act.put, n1, n2, n3, n4, n5, n6]
      refine tk 14 (v := ?_) ?_
      try simp only [Act.put, n1, n2, n3, n4, n5, n6]
      refine tk 15 (v := ?_) ?_
      try simp only [Act.put, n1, n2, n3, n4, n5, n6]
      refine wpAnyH_done (by kernel_rfl) ?_ _
      go_wp2
      go_roundw
      case rel => exact ⟨k + 1, _, by omega, by go_num, rfl, HN.out, HB2.out⟩
      case measure => go_light; simp [intOf]; omega
    · go_wp2
      go_ret
      exact ⟨ret_str (upTo_end HT.out (by omega) HR.out), HB.out⟩
end Go.Proofs.Ytiphlffcgjdoaaa.Mk

namespace Go.Proofs.Ytiphlffcgjdoaaa.Mk
open Go.RowKit Dr

theorem n_one (w : World) (g : Nat) : Calls Try.prog 34 #[.pointer (some ⟨g, 0, none⟩), .int .i64 1] w fun e w' => e = .returned (.int .i64 0) ∧ w = w' := by
  go_enter Try.func34, Try.ntmps34
  go_wp2
  go_ret
  exact ⟨rfl, rfl⟩
/-- a number up to n -/
theorem n_upto (w : World) (B g n : Nat) (hn : n ≤ 1000000) (h : HasSrc w B g) : Calls Try.prog 34 #[.pointer (some ⟨g, 0, none⟩), .int .i64 ((n : Int) + 1)] w (Drawn w B g (n + 1)) := by
  by_cases h0 : n = 0
  · subst h0
    exact (n_one w g).mono fun e w' ⟨he, hw⟩ => ⟨0, by omega, he, hw ▸ h, hw ▸ World.grownBy.refl w _⟩
  · exact n_draw w B g (n + 1) (by omega) (by omega) h
/-- what a drawn string leaves -/
def DrawnText (w : World) (B g most : Nat) (e : Ending) (w' : World) : Prop :=
  ∃ u : ByteArray, u.size ≤ most ∧ e = .returned (.string u) ∧ HasSrc w' B g ∧ Within g (g + 1) w w'
theorem one_byte (w : World) (b : UInt8) : (convert 22 9 (.slice (some ⟨w.heap.size, 0, none⟩) 1 1)).run Try.prog (w.alloc (.cells #[.int .u8 (b.toNat : Int)] 5)) = .ok (.string ⟨#[b]⟩) (w.alloc (.cells #[.int .u8 (b.toNat : Int)] 5)) := by
  refine run_convert_bytes_back (P := Try.prog) _ 22 9 5 ⟨w.heap.size, 0, none⟩ 1 [b] Try.underlying22 Try.underlying5 Try.underlying9 (fun j hj => ?_)
  have : j = 0 := by simpa using hj
  subst this
  have e : (⟨w.heap.size, 0, none⟩ : Addr).add 0 = ⟨w.heap.size, 0, none⟩ := by unfold Addr.add; split <;> simp_all
  rw [e, World.cell?_alloc_mark]; rfl
theorem size_one (b : UInt8) : (ByteArray.mk #[b]).size = 1 := rfl

set_option maxRecDepth 100000 in
set_option maxHeartbeats 4000000 in
theorem spoil_draw (w : World) (B g : Nat) (t : ByteArray) (ht : t.size ≤ 1000) (h : HasSrc w B g) :
    Calls Try.prog 50 #[.pointer (some ⟨g, 0, none⟩), .string t] w (DrawnText w B g 2000) := by
  have hBg := h.lt
  have H := Lib.hid h
  have D := Lib.hid (Within.refl g (g + 1) w)
  clear h
  go_enter Try.func50, Try.ntmps50
  go_wp2_with fail
  refine (n_upto _ B g t.size (by omega) H.out).mono ?_
  rintro e w1 ⟨k, hk, rfl, hs, hg⟩
  have hw := within_grown hg
  replace H := Lib.hid hs
  replace D := Lib.hid (D.out.trans hw)
  clear hs hg hw
  go_wp2_with fail
  refine (n_draw _ B g 17 (by omega) (by omega) H.out).mono ?_
  rintro e w2 ⟨r, hr, rfl, hs, hg⟩
  have hw := within_grown hg
  replace H := Lib.hid hs
  replace D := Lib.hid (D.out.trans hw)
  clear hs hg hw
  have hcv := one_byte w2
  have HD := Lib.hid (fun b : UInt8 => D.out.onto (step_alloc w2 (.cells #[.int .u8 (b.toNat : Int)] 5)))
  have HH := Lib.hid (fun b : UInt8 => H.out.below (step_alloc w2 (.cells #[.int .u8 (b.toNat : Int)] 5)))
  have e0 : (0 : Int) ≤ (k : Int) := by omega
  have e1 : (k : Int) ≤ (t.size : Int) := by omega
  by_cases hke : k = t.size
  · have hk2 : ((k : Int) == (t.size : Int)) = true := by simp; omega
    go_wp2_with fail
    refine wp_region_held_drew (S := (fun _ => True)) (by kernel_rfl) (by trivial) (fun hHeld => ?_)
    refine wpAnyH_take (i := 0) (v := ?_) rfl (by kernel_rfl) (by kernel_rfl) (by kernel_rfl) (fun _ _ _ h => h) (Or.inl ⟨by rfl, fun w hSw => by (try dsimp only at hSw); go_simp; first | done | with_reducible rfl | (rw [if_neg (by simp [size_one]; omega)])⟩) (by assumption) ?_
    try simp only [Act.put, n1, n2, n3, n4, n5, n6]
    refine wpAnyH_take (i := 1) (v := ?_) rfl (by kernel_rfl) (by kernel_rfl) (by kernel_rfl) (fun _ _ _ h => h) (Or.inl ⟨by rfl, fun w hSw => by (try dsimp only at hSw); go_simp; first | done | with_reducible rfl | (rw [if_neg (by simp [size_one]; omega)])⟩) (by assumption) ?_
    try simp only [Act.put, n1, n2, n3, n4, n5, n6]
    refine wpAnyH_take (i := 2) (v := ?_) rfl (by kernel_rfl) (by kernel_rfl) (by kernel_rfl) (fun _ _ _ h => h) (Or.inl ⟨by rfl, fun w hSw => by (try dsimp only at hSw); go_simp; first | done | with_reducible rfl | (rw [if_neg (by simp [size_one]; omega)])⟩) (by assumption) ?_
    try simp only [Act.put, n1, n2, n3, n4, n5, n6]
    refine wpAnyH_take (i := 3) (v := ?_) rfl (by kernel_rfl) (by kernel_rfl) (by kernel_rfl) (fun _ _ _ h => h) (Or.inl ⟨by rfl, fun w hSw => by (try dsimp only at hSw); go_simp; first | done | with_reducible rfl | (rw [if_neg (by simp [size_one]; omega)])⟩) (by assumption) ?_
    try simp only [Act.put, n1, n2, n3, n4, n5, n6]
    refine wpAnyH_take (i := 4) (v := ?_) rfl (by kernel_rfl) (by kernel_rfl) (by kernel_rfl) (fun _ _ _ h => h) (Or.inl ⟨by rfl, fun w hSw => by (try dsimp only at hSw); go_simp; first | done | with_reducible rfl | (rw [if_neg (by simp [size_one]; omega)])⟩) (by assumption) ?_
    try simp only [Act.put, n1, n2, n3, n4, n5, n6]
    refine wpAnyH_take (i := 5) (v := ?_) rfl (by kernel_rfl) (by kernel_rfl) (by kernel_rfl) (fun _ _ _ h => h) (Or.inl ⟨by rfl, fun w hSw => by (try dsimp only at hSw); go_simp; first | done | with_reducible rfl | (rw [if_neg (by simp [size_one]; omega)])⟩) (by assumption) ?_
    try simp only [Act.put, n1, n2, n3, n4, n5, n6]
    refine wpAnyH_take (i := 6) (v := ?_) rfl (by kernel_rfl) (by kernel_rfl) (by kernel_rfl) (fun _ _ _ h => h) (Or.inl ⟨by rfl, fun w hSw => by (try dsimp only at hSw); go_simp; first | done | with_reducible rfl | (rw [if_neg (by simp [size_one]; omega)])⟩) (by assumption) ?_
    try simp only [Act.put, n1, n2, n3, n4, n5, n6]
    refine wpAnyH_take (i := 7) (v := ?_) rfl (by kernel_rfl) (by kernel_rfl) (by kernel_rfl) (fun _ _ _ h => h) (Or.inl ⟨by rfl, fun w hSw => by (try dsimp only at hSw); go_simp; first | done | with_reducible rfl | (rw [if_neg (by simp [size_one]; omega)])⟩) (by assumption) ?_
    try simp only [Act.put, n1, n2, n3, n4, n5, n6]
    refine wpAnyH_take (i := 8) (v := ?_) rfl (by kernel_rfl) (by kernel_rfl) (by kernel_rfl) (fun _ _ _ h => h) (Or.inl ⟨by rfl, fun w hSw => by (try dsimp only at hSw); go_simp; first | done | with_reducible rfl | (rw [if_neg (by simp [size_one]; omega)])⟩) (by assumption) ?_
    try simp only [Act.put, n1, n2, n3, n4, n5, n6]
    refine wpAnyH_take (i := 9) (v := ?_) rfl (by kernel_rfl) (by kernel_rfl) (by kernel_rfl) (fun _ _ _ h => h) (Or.inl ⟨by rfl, fun w hSw => by (try dsimp only at hSw); go_simp; first | done | with_reducible rfl | (rw [if_neg (by simp [size_one]; omega)])⟩) (by assumption) ?_
    try simp only [Act.put, n1, n2, n3, n4, n5, n6]
    refine wpAnyH_done (by kernel_rfl) ?_ _
    go_wp2
    go_ret
    exact ⟨_, by simp [size_one]; omega, rfl, (HH.out _).below (step_drew _), (HD.out _).onto (step_drew _)⟩
  · have hk2 : ((k : Int) == (t.size : Int)) = false := by simp; omega
    have hkl : k < t.size := by omega
    have e2 : (k : Int) + 1 ≤ (t.size : Int) := by omega
    have e3 : (0 : Int) ≤ (k : Int) + 1 := by omega
    have e4 : IntKind.i64.wrap ((k : Int) + 1) = (k : Int) + 1 := by rw [IntKind.wrap_i64]; omega
    have e5 : ((k : Int) + 1).toNat = k + 1 := by omega
    go_wp2_with fail
    refine (one_draw _ B g 3 (by omega) (by omega) (HH.out _)).mono ?_
    rintro e w3 ⟨r3, rfl, hs, hg⟩
    have hw := within_grown hg
    have D3 := Lib.hid ((HD.out _).trans hw)
    have H3 := Lib.hid hs
    clear hs hg hw
    cases r3
    · go_wp2_with fail
      refine (one_draw _ B g 2 (by omega) (by omega) H3.out).mono ?_
      rintro e w4 ⟨r4, rfl, hs, hg⟩
      have hw := within_grown hg
      have D4 := Lib.hid (D3.out.trans hw)
      have H4 := Lib.hid hs
      clear hs hg hw
      cases r4
      · go_wp2_with fail
        refine wp_region_held_drew (S := (fun _ => True)) (by kernel_rfl) (by trivial) (fun hHeld => ?_)
        refine wpAnyH_take (i := 0) (v := ?_) rfl (by kernel_rfl) (by kernel_rfl) (by kernel_rfl) (fun _ _ _ h => h) (Or.inl ⟨by rfl, fun w hSw => by (try dsimp only at hSw); go_simp; first | done | with_reducible rfl | (rw [if_neg (by simp [size_one]; omega)])⟩) (by assumption) ?_
        try simp only [Act.put, n1, n2, n3, n4, n5, n6]
        refine wpAnyH_take (i := 1) (v := ?_) rfl (by kernel_rfl) (by kernel_rfl) (by kernel_rfl) (fun _ _ _ h => h) (Or.inl ⟨by rfl, fun w hSw => by (try dsimp only at hSw); go_simp; first | done | with_reducible rfl | (rw [if_neg (by simp [size_one]; omega)])⟩) (by assumption) ?_
        try simp only [Act.put, n1, n2, n3, n4, n5, n6]
        refine wpAnyH_take (i := 2) (v := ?_) rfl (by kernel_rfl) (by kernel_rfl) (by kernel_rfl) (fun _ _ _ h => h) (Or.inl ⟨by rfl, fun w hSw => by (try dsimp only at hSw); go_simp; first | done | with_reducible rfl | (rw [if_neg (by simp [size_one]; omega)])⟩) (by assumption) ?_
        try simp only [Act.put, n1, n2, n3, n4, n5, n6]
        refine wpAnyH_take (i := 3) (v := ?_) rfl (by kernel_rfl) (by kernel_rfl) (by kernel_rfl) (fun _ _ _ h => h) (Or.inl ⟨by rfl, fun w hSw => by (try dsimp only at hSw); go_simp; first | done | with_reducible rfl | (rw [if_neg (by simp [size_one]; omega)])⟩) (by assumption) ?_
        try simp only [Act.put, n1, n2, n3, n4, n5, n6]
        refine wpAnyH_take (i := 4) (v := ?_) rfl (by kernel_rfl) (by kernel_rfl) (by kernel_rfl) (fun _ _ _ h => h) (Or.inl ⟨by rfl, fun w hSw => by (try dsimp only at hSw); go_simp; first | done | with_reducible rfl | (rw [if_neg (by simp [size_one]; omega)])⟩) (by assumption) ?_
        try simp only [Act.put, n1, n2, n3, n4, n5, n6]
        refine wpAnyH_take (i := 5) (v := ?_) rfl (by kernel_rfl) (by kernel_rfl) (by kernel_rfl) (fun _ _ _ h => h) (Or.inl ⟨by rfl, fun w hSw => by (try dsimp only at hSw); go_simp; first | done | with_reducible rfl | (rw [if_neg (by simp [size_one]; omega)])⟩) (by assumption) ?_
        try simp only [Act.put, n1, n2, n3, n4, n5, n6]
        refine wpAnyH_take (i := 6) (v := ?_) rfl (by kernel_rfl) (by kernel_rfl) (by kernel_rfl) (fun _ _ _ h => h) (Or.inl ⟨by rfl, fun w hSw => by (try dsimp only at hSw); go_simp; first | done | with_reducible rfl | (rw [if_neg (by simp [size_one]; omega)])⟩) (by assumption) ?_
        try simp only [Act.put, n1, n2, n3, n4, n5, n6]
        refine wpAnyH_take (i := 7) (v := ?_) rfl (by kernel_rfl) (by kernel_rfl) (by kernel_rfl) (fun _ _ _ h => h) (Or.inl ⟨by rfl, fun w hSw => by (try dsimp only at hSw); go_simp; first | done | with_reducible rfl | (rw [if_neg (by simp [size_one]; omega)])⟩) (by assumption) ?_
        try simp only [Act.put, n1, n2, n3, n4, n5, n6]
        refine wpAnyH_take (i := 8) (v := ?_) rfl (by kernel_rfl) (by kernel_rfl) (by kernel_rfl) (fun _ _ _ h => h) (Or.inl ⟨by rfl, fun w hSw => by (try dsimp only at hSw); go_simp; first | done | with_reducible rfl | (rw [if_neg (by simp [size_one]; omega)])⟩) (by assumption) ?_
        try simp only [Act.put, n1, n2, n3, n4, n5, n6]
        refine wpAnyH_take (i := 9) (v := ?_) rfl (by kernel_rfl) (by kernel_rfl) (by kernel_rfl) (fun _ _ _ h => h) (Or.inl ⟨by rfl, fun w hSw => by (try dsimp only at hSw); go_simp; first | done | with_reducible rfl | (rw [if_neg (by simp [size_one]; omega)])⟩) (by assumption) ?_
        try simp only [Act.put, n1, n2, n3, n4, n5, n6]
        refine wpAnyH_take (i := 10) (v := ?_) rfl (by kernel_rfl) (by kernel_rfl) (by kernel_rfl) (fun _ _ _ h => h) (Or.inl ⟨by rfl, fun w hSw => by (try dsimp only at hSw); go_simp; first | done | with_reducible rfl | (rw [if_neg (by simp [size_one]; omega)])⟩) (by assumption) ?_
        try simp only [Act.put, n1, n2, n3, n4, n5, n6]
        refine wpAnyH_done (by kernel_rfl) ?_ _
        go_wp2
        go_ret
        exact ⟨_, by simp [size_one]; omega, rfl, H4.out.below (step_drew _), D4.out.onto (step_drew _)⟩
      · go_wp2_with fail
        refine wp_region_held_drew (S := (fun _ => True)) (by kernel_rfl) (by trivial) (fun hHeld => ?_)
        refine wpAnyH_take (i := 0) (v := ?_) rfl (by kernel_rfl) (by kernel_rfl) (by kernel_rfl) (fun _ _ _ h => h) (Or.inl ⟨by rfl, fun w hSw => by (try dsimp only at hSw); go_simp; first | done | with_reducible rfl | (rw [if_neg (by simp [size_one]; omega)])⟩) (by assumption) ?_
        try simp only [Act.put, n1, n2, n3, n4, n5, n6]
        refine wpAnyH_take (i := 1) (v := ?_) rfl (by kernel_rfl) (by kernel_rfl) (by kernel_rfl) (fun _ _ _ h => h) (Or.inl ⟨by rfl, fun w hSw => by (try dsimp only at hSw); go_simp; first | done | with_reducible rfl | (rw [if_neg (by simp [size_one]; omega)])⟩) (by assumption) ?_
        try simp only [Act.put, n1, n2, n3, n4, n5, n6]
        refine wpAnyH_take (i := 2) (v := ?_) rfl (by kernel_rfl) (by kernel_rfl) (by kernel_rfl) (fun _ _ _ h => h) (Or.inl ⟨by rfl, fun w hSw => by (try dsimp only at hSw); go_simp; first | done | with_reducible rfl | (rw [if_neg (by simp [size_one]; omega)])⟩) (by assumption) ?_
        try simp only [Act.put, n1, n2, n3, n4, n5, n6]
        refine wpAnyH_take (i := 3) (v := ?_) rfl (by kernel_rfl) (by kernel_rfl) (by kernel_rfl) (fun _ _ _ h => h) (Or.inl ⟨by rfl, fun w hSw => by (try dsimp only at hSw); go_simp; first | done | with_reducible rfl | (rw [if_neg (by simp [size_one]; omega)])⟩) (by assumption) ?_
        try simp only [Act.put, n1, n2, n3, n4, n5, n6]
        refine wpAnyH_take (i := 4) (v := ?_) rfl (by kernel_rfl) (by kernel_rfl) (by kernel_rfl) (fun _ _ _ h => h) (Or.inl ⟨by rfl, fun w hSw => by (try dsimp only at hSw); go_simp; first | done | with_reducible rfl | (rw [if_neg (by simp [size_one]; omega)])⟩) (by assumption) ?_
        try simp only [Act.put, n1, n2, n3, n4, n5, n6]
        refine wpAnyH_take (i := 5) (v := ?_) rfl (by kernel_rfl) (by kernel_rfl) (by kernel_rfl) (fun _ _ _ h => h) (Or.inl ⟨by rfl, fun w hSw => by (try dsimp only at hSw); go_simp; first | done | with_reducible rfl | (rw [if_neg (by simp [size_one]; omega)])⟩) (by assumption) ?_
        try simp only [Act.put, n1, n2, n3, n4, n5, n6]
        refine wpAnyH_take (i := 6) (v := ?_) rfl (by kernel_rfl) (by kernel_rfl) (by kernel_rfl) (fun _ _ _ h => h) (Or.inl ⟨by rfl, fun w hSw => by (try dsimp only at hSw); go_simp; first | done | with_reducible rfl | (rw [if_neg (by simp [size_one]; omega)])⟩) (by assumption) ?_
        try simp only [Act.put, n1, n2, n3, n4, n5, n6]
        refine wpAnyH_take (i := 7) (v := ?_) rfl (by kernel_rfl) (by kernel_rfl) (by kernel_rfl) (fun _ _ _ h => h) (Or.inl ⟨by rfl, fun w hSw => by (try dsimp only at hSw); go_simp; first | done | with_reducible rfl | (rw [if_neg (by simp [size_one]; omega)])⟩) (by assumption) ?_
        try simp only [Act.put, n1, n2, n3, n4, n5, n6]
        refine wpAnyH_take (i := 8) (v := ?_) rfl (by kernel_rfl) (by kernel_rfl) (by kernel_rfl) (fun _ _ _ h => h) (Or.inl ⟨by rfl, fun w hSw => by (try dsimp only at hSw); go_simp; first | done | with_reducible rfl | (rw [if_neg (by simp [size_one]; omega)])⟩) (by assumption) ?_
        try simp only [Act.put, n1, n2, n3, n4, n5, n6]
        refine wpAnyH_done (by kernel_rfl) ?_ _
        go_wp2
        go_ret
        exact ⟨_, by simp [size_one]; omega, rfl, H4.out.below (step_drew _), D4.out.onto (step_drew _)⟩
    · go_wp2_with fail
      refine wp_region_held_drew (S := (fun _ => True)) (by kernel_rfl) (by trivial) (fun hHeld => ?_)
      refine wpAnyH_take (i := 0) (v := ?_) rfl (by kernel_rfl) (by kernel_rfl) (by kernel_rfl) (fun _ _ _ h => h) (Or.inl ⟨by rfl, fun w hSw => by (try dsimp only at hSw); go_simp; first | done | with_reducible rfl | (rw [if_neg (by simp [size_one]; omega)])⟩) (by assumption) ?_
      try simp only [Act.put, n1, n2, n3, n4, n5, n6]
      refine wpAnyH_take (i := 1) (v := ?_) rfl (by kernel_rfl) (by kernel_rfl) (by kernel_rfl) (fun _ _ _ h => h) (Or.inl ⟨by rfl, fun w hSw => by (try dsimp only at hSw); go_simp; first | done | with_reducible rfl | (rw [if_neg (by simp [size_one]; omega)])⟩) (by assumption) ?_
      try simp only [Act.put, n1, n2, n3, n4, n5, n6]
      refine wpAnyH_take (i := 2) (v := ?_) rfl (by kernel_rfl) (by kernel_rfl) (by kernel_rfl) (fun _ _ _ h => h) (Or.inl ⟨by rfl, fun w hSw => by (try dsimp only at hSw); go_simp; first | done | with_reducible rfl | (rw [if_neg (by simp [size_one]; omega)])⟩) (by assumption) ?_
      try simp only [Act.put, n1, n2, n3, n4, n5, n6]
      refine wpAnyH_take (i := 3) (v := ?_) rfl (by kernel_rfl) (by kernel_rfl) (by kernel_rfl) (fun _ _ _ h => h) (Or.inl ⟨by rfl, fun w hSw => by (try dsimp only at hSw); go_simp; first | done | with_reducible rfl | (rw [if_neg (by simp [size_one]; omega)])⟩) (by assumption) ?_
      try simp only [Act.put, n1, n2, n3, n4, n5, n6]
      refine wpAnyH_take (i := 4) (v := ?_) rfl (by kernel_rfl) (by kernel_rfl) (by kernel_rfl) (fun _ _ _ h => h) (Or.inl ⟨by rfl, fun w hSw => by (try dsimp only at hSw); go_simp; first | done | with_reducible rfl | (rw [if_neg (by simp [size_one]; omega)])⟩) (by assumption) ?_
      try simp only [Act.put, n1, n2, n3, n4, n5, n6]
      refine wpAnyH_take (i := 5) (v := ?_) rfl (by kernel_rfl) (by kernel_rfl) (by kernel_rfl) (fun _ _ _ h => h) (Or.inl ⟨by rfl, fun w hSw => by (try dsimp only at hSw); go_simp; first | done | with_reducible rfl | (rw [if_neg (by simp [size_one]; omega)])⟩) (by assumption) ?_
      try simp only [Act.put, n1, n2, n3, n4, n5, n6]
      refine wpAnyH_take (i := 6) (v := ?_) rfl (by kernel_rfl) (by kernel_rfl) (by kernel_rfl) (fun _ _ _ h => h) (Or.inl ⟨by rfl, fun w hSw => by (try dsimp only at hSw); go_simp; first | done | with_reducible rfl | (rw [if_neg (by simp [size_one]; omega)])⟩) (by assumption) ?_
      try simp only [Act.put, n1, n2, n3, n4, n5, n6]
      refine wpAnyH_take (i := 7) (v := ?_) rfl (by kernel_rfl) (by kernel_rfl) (by kernel_rfl) (fun _ _ _ h => h) (Or.inl ⟨by rfl, fun w hSw => by (try dsimp only at hSw); go_simp; first | done | with_reducible rfl | (rw [if_neg (by simp [size_one]; omega)])⟩) (by assumption) ?_
      try simp only [Act.put, n1, n2, n3, n4, n5, n6]
      refine wpAnyH_take (i := 8) (v := ?_) rfl (by kernel_rfl) (by kernel_rfl) (by kernel_rfl) (fun _ _ _ h => h) (Or.inl ⟨by rfl, fun w hSw => by (try dsimp only at hSw); go_simp; first | done | with_reducible rfl | (rw [if_neg (by simp [size_one]; omega)])⟩) (by assumption) ?_
      try simp only [Act.put, n1, n2, n3, n4, n5, n6]
      refine wpAnyH_take (i := 9) (v := ?_) rfl (by kernel_rfl) (by kernel_rfl) (by kernel_rfl) (fun _ _ _ h => h) (Or.inl ⟨by rfl, fun w hSw => by (try dsimp only at hSw); go_simp; first | done | with_reducible rfl | (rw [if_neg (by simp [size_one]; omega)])⟩) (by assumption) ?_
      try simp only [Act.put, n1, n2, n3, n4, n5, n6]
      refine wpAnyH_done (by kernel_rfl) ?_ _
      go_wp2
      go_ret
      exact ⟨_, by simp [size_one]; omega, rfl, H3.out.below (step_drew _), D3.out.onto (step_drew _)⟩
end Go.Proofs.Ytiphlffcgjdoaaa.Mk

namespace Go.Proofs.Ytiphlffcgjdoaaa.Mk
open Go.RowKit Dr

theorem bytesV_size (l : List (Int × Int)) : (bytesV l).size ≤ 1000 := by
  cases h : rightB l
  · rw [bytesV_no h]; show 0 ≤ _; omega
  · rw [bytesV_yes h]
    have hle := flat_length_le l (right_dot h)
    have h5 := right_len h
    have h2 := Nu.enc_len10 (Nu.fold l.length) (Nu.fold_lt _ (by omega))
    show (seenB l).toArray.size ≤ 1000
    unfold seenB
    rw [List.size_toArray, List.length_append]
    omega
/-- what one drawn slice leaves -/
def GotOne (w : World) (e : Ending) (w' : World) : Prop := ∃ (l : List (Int × Int)) (a : Option Addr) (cap : Nat), l.length ≤ 6 ∧ e = .returned (.slice a l.length cap) ∧ MarksAt w' a l ∧ Below w.heap.size w w'
def GotTwo (w : World) (e : Ending) (w' : World) : Prop := ∃ (l l' : List (Int × Int)) (a a' : Option Addr) (cap cap' : Nat), l.length ≤ 6 ∧ l'.length ≤ 6 ∧ e = .returned (.tuple #[.slice a l.length cap, .slice a' l'.length cap']) ∧ MarksAt w' a l ∧ MarksAt w' a' l' ∧ Below w.heap.size w w'
def GotNode (w : World) (e : Ending) (w' : World) : Prop := ∃ (l : List (Int × Int)) (a : Option Addr) (cap n : Nat), l.length ≤ 6 ∧ n < 7 ∧ e = .returned (.tuple #[.slice a l.length cap, .int .i64 (n : Int)]) ∧ MarksAt w' a l ∧ Below w.heap.size w w'
def GotDot (w : World) (e : Ending) (w' : World) : Prop := ∃ (l : List (Int × Int)) (a : Option Addr) (cap : Nat) (x y : Int), l.length ≤ 6 ∧ (0 ≤ x ∧ x ≤ 1000001 ∧ 0 ≤ y ∧ y ≤ 1000001) ∧ e = .returned (.tuple #[.slice a l.length cap, .agg #[.int .i64 x, .int .i64 y]]) ∧ OwnIn w' w.heap.size w'.heap.size a l ∧ Below w.heap.size w w'
def GotText (w : World) (e : Ending) (w' : World) : Prop := ∃ u : ByteArray, u.size ≤ 2000 ∧ e = .returned (.string u) ∧ Below w.heap.size w w'

end Go.Proofs.Ytiphlffcgjdoaaa.Mk

namespace Go.Proofs.Ytiphlffcgjdoaaa.Mk
open Go.RowKit Dr

theorem extract_le (t : ByteArray) (n : Nat) : (t.extract 0 n).size ≤ t.size := by
  rw [ByteArray.size_extract]; omega

end Go.Proofs.Ytiphlffcgjdoaaa.Mk

namespace Go.Proofs.Ytiphlffcgjdoaaa.Nu
open Go.RowKit

def putText (t : ByteArray) : ByteArray := if 8000 < t.size then ⟨#[]⟩ else numS t.size ++ t
theorem putText_long (t : ByteArray) (h : 8000 < t.size) : putText t = ⟨#[]⟩ := if_pos h
theorem putText_short (t : ByteArray) (h : ¬ 8000 < t.size) : putText t = numS t.size ++ t := if_neg h
theorem ret_str {a b : ByteArray} (h : a = b) : Ending.returned (.string a) = .returned (.string b) := by rw [h]
theorem wf_len (t : ByteArray) (h : t.size ≤ 9223372036854775807) : (Lit.int .i64 (t.size : Int)).wf = true := WalkArith.wf_i64 (by omega)

set_option maxRecDepth 100000 in
set_option maxHeartbeats 1000000 in
theorem spec_PutText (t : ByteArray) (hs : t.size ≤ maxLen) (w : World) :
    Calls Try.prog 90 #[.string t] w fun e w' => e = .returned (.string (putText t)) ∧ Below w.heap.size w w' := by
  unfold maxLen at hs
  by_cases h1 : 8000 < t.size
  · go_enter Try.func90, Try.ntmps90
    go_wp2
    go_ret
    exact ⟨ret_str (putText_long t h1).symm, Below.refl _ _⟩
  · have d1 : decide (8000 < (t.size : Int)) = false := by simp; omega
    go_enter Try.func90, Try.ntmps90
    go_wp2_with fail
    refine (spec_PutNum t.size (wf_len t (by omega)) _).mono ?_
    rintro e w1 ⟨rfl, hb1⟩
    have e0 : ByteArray.mk (enc (fold t.size)).toArray = numS t.size := rfl
    rw [e0]
    clear e0
    have hsm := numS_size t.size (by omega)
    go_wp2
    go_ret
    exact ⟨ret_str (putText_short t h1).symm, hb1⟩

set_option maxRecDepth 100000 in
set_option maxHeartbeats 1000000 in
theorem impl_PutText (t : ByteArray) (hs : t.size ≤ maxLen) (w : World) :
    Calls Try.prog 82 #[.string t] w fun e w' => e = .returned (.string (putText t)) ∧ Below w.heap.size w w' := by
  unfold maxLen at hs
  by_cases h1 : 8000 < t.size
  · go_enter Try.func82, Try.ntmps82
    go_wp2
    go_ret
    exact ⟨ret_str (putText_long t h1).symm, Below.refl _ _⟩
  · have d1 : decide (8000 < (t.size : Int)) = false := by simp; omega
    go_enter Try.func82, Try.ntmps82
    go_wp2_with fail
    refine (impl_PutNum t.size (wf_len t (by omega)) _).mono ?_
    rintro e w1 ⟨rfl, hb1⟩
    have e0 : ByteArray.mk (enc (fold t.size)).toArray = numS t.size := rfl
    rw [e0]
    clear e0
    have hsm := numS_size t.size (by omega)
    go_wp2_with fail
    refine (joined_two (numS t.size) t w1 (by omega)).mono ?_
    rintro e w2 ⟨rfl, hb2⟩
    go_wp2
    go_ret
    exact ⟨ret_str (putText_short t h1).symm, hb1.trans (hb2.mono hb1.size)⟩

end Go.Proofs.Ytiphlffcgjdoaaa.Nu

namespace Go.Proofs.Ytiphlffcgjdoaaa.Sb
open Go.Proofs.Ytiphlffcgjdoaaa.Mk Go.Proofs.Ytiphlffcgjdoaaa.Nu

def goneI (g : Bool) : Int := if g = true then 1 else 0
/-- the bytes of a Sib, of a Set -/
def sibS (x : Sib) : ByteArray := markS x.1 ++ numS (goneI x.2.1) ++ putText x.2.2
def sibB (x : Sib) : List UInt8 := (sibS x).data.toList
def setBB (l : List (Int × Int)) (s : List Sib) : List UInt8 := seenB l ++ (enc (fold s.length) ++ s.flatMap sibB)
/-- what SetBytes returns -/
def setBytes (l : List (Int × Int)) (s : List Sib) : ByteArray := if setB l s = true then ⟨(setBB l s).toArray⟩ else ⟨#[]⟩
theorem setBytes_no {l : List (Int × Int)} {s : List Sib} (h : setB l s = false) : setBytes l s = ⟨#[]⟩ := if_neg (by rw [h]; simp)
theorem setBytes_yes {l : List (Int × Int)} {s : List Sib} (h : setB l s = true) : setBytes l s = ⟨(setBB l s).toArray⟩ := if_pos h
theorem ok_dot {l : List (Int × Int)} {x : Sib} (h : sibOk l x = true) : dotB x.1 = true ∧ x.2.2.size ≤ 16 := by
  unfold sibOk hasB contB at h
  simp at h
  exact ⟨h.1.1.2, h.2.1⟩
theorem goneI_size (g : Bool) : (numS (goneI g)).size ≤ 10 := by
  cases g
  · exact numS_size_of _ (by unfold goneI; simp)
  · exact numS_size_of _ (by unfold goneI; simp)
theorem putText_small {d : ByteArray} (h : d.size ≤ 16) : putText d = numS d.size ++ d := putText_short d (by omega)
theorem putText_size {d : ByteArray} (h : d.size ≤ 16) : (putText d).size ≤ 26 := by
  rw [putText_small h, ByteArray.size_append]
  have := numS_size d.size (by omega)
  omega
theorem sibS_size {l : List (Int × Int)} {x : Sib} (h : sibOk l x = true) : (sibS x).size ≤ 56 := by
  obtain ⟨h1, h2⟩ := ok_dot h
  have a := markS_size x.1 h1
  have b := goneI_size x.2.1
  have c := putText_size h2
  unfold sibS; rw [ByteArray.size_append, ByteArray.size_append]; omega
theorem sibB_len {l : List (Int × Int)} {x : Sib} (h : sibOk l x = true) : (sibB x).length ≤ 56 := by
  unfold sibB; rw [Array.length_toList]; exact sibS_size h
theorem flatS_len {l : List (Int × Int)} : ∀ (s : List Sib), (∀ x ∈ s, sibOk l x = true) → (s.flatMap sibB).length ≤ 56 * s.length
  | [], _ => by simp
  | x :: r, h => by
    have h1 := sibB_len (h x (by simp))
    have h2 := flatS_len r (fun m hm => h m (by simp [hm]))
    rw [List.flatMap_cons, List.length_append, List.length_cons]; omega
theorem seenB_len {l : List (Int × Int)} (h : rightB l = true) : (seenB l).length ≤ 110 := by
  have h5 := right_len h
  have h2 := enc_len10 (fold l.length) (fold_lt _ (by omega))
  have h3 := flat_length_le l (right_dot h)
  unfold seenB; rw [List.length_append]; omega
theorem setOk_of {l : List (Int × Int)} {s : List Sib} (h : setB l s = true) : SetOk l s := of_decide_eq_true h
theorem setBB_len {l : List (Int × Int)} {s : List Sib} (h : setB l s = true) : (setBB l s).length ≤ 600 := by
  obtain ⟨h1, h2, h3, _⟩ := setOk_of h
  have a := seenB_len h1
  have b := enc_len10 (fold s.length) (fold_lt _ (by omega))
  have c := flatS_len s h3
  unfold setBB; rw [List.length_append, List.length_append]; omega
/-- the parts that are joined -/
def partsS (l : List (Int × Int)) (s : List Sib) (k : Nat) : List ByteArray := bytesV l :: numS s.length :: (s.take k).map sibS
theorem partsS_next (l : List (Int × Int)) (s : List Sib) (k : Nat) (h : k < s.length) : partsS l s (k + 1) = partsS l s k ++ [sibS s[k]] := by
  unfold partsS; rw [List.take_succ_eq_append_getElem h, List.map_append]; rfl
theorem cat_partsS {l : List (Int × Int)} (hr : rightB l = true) (s : List Sib) (k : Nat) : cat (partsS l s k) = seenB l ++ (enc (fold s.length) ++ (s.take k).flatMap sibB) := by
  unfold partsS cat
  rw [List.map_cons, List.flatten_cons, List.map_cons, List.flatten_cons, numS_data, List.map_map, bytesV_yes hr]
  rw [List.flatMap_def]
  rfl
/-- the bytes of the first k Sibs, as the model joins them -/
def upToS (l : List (Int × Int)) (s : List Sib) (k : Nat) (t : ByteArray) : Prop := t.data.toList = seenB l ++ (enc (fold s.length) ++ (s.take k).flatMap sibB) ∧ t.size ≤ 200 + 56 * k
theorem upToS_zero {l : List (Int × Int)} {s : List Sib} (hr : rightB l = true) (h : s.length ≤ 8) : upToS l s 0 (bytesV l ++ numS s.length) := by
  refine ⟨?_, ?_⟩
  · rw [ByteArray.data_append, bytesV_yes hr]; simp [numS]
  · have a := seenB_len hr
    have b := numS_size s.length (by omega)
    rw [ByteArray.size_append, bytesV_yes hr]
    have : (ByteArray.mk (seenB l).toArray).size = (seenB l).length := by simp [ByteArray.size]
    omega
theorem upToS_next {l : List (Int × Int)} {s : List Sib} {k : Nat} {t : ByteArray} (h : upToS l s k t) (hk : k < s.length) (ho : sibOk l s[k] = true) :
    upToS l s (k + 1) (t ++ numS s[k].1.1 ++ numS s[k].1.2 ++ numS (goneI s[k].2.1) ++ putText s[k].2.2) := by
  have hs := sibS_size ho
  have h3 := h.2
  refine ⟨?_, ?_⟩
  · rw [List.take_succ_eq_append_getElem hk, List.flatMap_append]
    simp only [ByteArray.data_append, Array.toList_append, h.1, List.flatMap_cons, List.flatMap_nil, List.append_nil, sibB, sibS, markS, List.append_assoc]
  · unfold sibS markS at hs
    simp only [ByteArray.size_append] at hs ⊢
    omega
theorem upToS_end {l : List (Int × Int)} {s : List Sib} {k : Nat} {t : ByteArray} (h : upToS l s k t) (hk : s.length ≤ k) (hr : setB l s = true) : t = setBytes l s := by
  rw [setBytes_yes hr]
  have h1 := h.1
  rw [List.take_of_length_le hk] at h1
  apply ByteArray.ext
  apply Array.ext'
  rw [h1]; rfl
end Go.Proofs.Ytiphlffcgjdoaaa.Sb
