/- Contracts of the four bytes of a CRC and of Seal, of the model and of the program; the law of Seal over them. No condition. -/
import Derived.Test.YtiaoifodaoifjaaDoorJoin
import Derived.Test.YtiaoifodaoifjaaDoorCrc
set_option linter.unusedSimpArgs false
set_option linter.unusedVariables false
namespace Go.Proofs.YtiaoifodaoifjaaDoor.Se
open Go.RowKit Nu Cr

/-- the CRC of a string, as a number below 2^32 -/
def crcN (s : ByteArray) : Nat := (crc s).toNat
theorem crcN_short (s : ByteArray) (h : ¬ 8000 < s.size) : crcN s = creg s.data.toList (0 ^^^ 4294967295) ^^^ 4294967295 := by
  unfold crcN crc
  have := crcMore_nat 0 s h (by omega)
  rw [show ((0 : Nat) : Int) = 0 from rfl] at this
  rw [this]; simp
theorem crcN_lt (s : ByteArray) : crcN s < 4294967296 := by
  by_cases h : 8000 < s.size
  · unfold crcN crc; rw [crcMore_zero 0 s (.inl h)]; simp
  · rw [crcN_short s h]
    exact xor_lt _ _ (creg_lt _ _ (xor_lt _ _ (by omega) (by omega))) (by omega)
theorem crc_eq (s : ByteArray) : crc s = (crcN s : Nat) := by
  by_cases h : 8000 < s.size
  · unfold crcN crc; rw [crcMore_zero 0 s (.inl h)]; rfl
  · have := crcMore_nat 0 s h (by omega)
    rw [show ((0 : Nat) : Int) = 0 from rfl] at this
    rw [crcN_short s h]; exact this
/-- four bytes, the least first -/
def fourL (c : Nat) : List UInt8 := [UInt8.ofNat (c % 256), UInt8.ofNat (c / 256 % 256), UInt8.ofNat (c / 65536 % 256), UInt8.ofNat (c / 16777216 % 256)]
def four (c : Nat) : ByteArray := ⟨(fourL c).toArray⟩
theorem four_size (c : Nat) : (four c).size = 4 := rfl
def sealed (s : ByteArray) : ByteArray := if 7996 < s.size then ⟨#[]⟩ else s ++ four (crcN s)
theorem sealed_long (s : ByteArray) (h : 7996 < s.size) : sealed s = ⟨#[]⟩ := if_pos h
theorem sealed_short (s : ByteArray) (h : ¬ 7996 < s.size) : sealed s = s ++ four (crcN s) := if_neg h
theorem ret_str {a b : ByteArray} (h : a = b) : Ending.returned (.string a) = .returned (.string b) := by rw [h]

theorem conv4 (c : Nat) (w : World) :
    (convert 22 9 (.slice (some ⟨w.heap.size, 0, none⟩) 4 4)).run Tryd.prog (w.alloc (.cells #[.int .u8 ((c : Int) % 256), .int .u8 ((c : Int) / 256 % 256), .int .u8 ((c : Int) / 65536 % 256), .int .u8 ((c : Int) / 16777216 % 256)] 5)) =
      .ok (.string (four c)) (w.alloc (.cells #[.int .u8 ((c : Int) % 256), .int .u8 ((c : Int) / 256 % 256), .int .u8 ((c : Int) / 65536 % 256), .int .u8 ((c : Int) / 16777216 % 256)] 5)) := by
  refine run_convert_bytes_back (P := Tryd.prog) _ 22 9 5 ⟨w.heap.size, 0, none⟩ 4 (fourL c) Tryd.underlying22 Tryd.underlying5 Tryd.underlying9 (fun j hj => ?_)
  have e : (⟨w.heap.size, 0, none⟩ : Addr).add j = ⟨w.heap.size, j, none⟩ := by unfold Addr.add; split <;> simp_all
  rw [e, World.cell?_alloc_mark]
  have hb : ∀ k : Nat, k < 256 → some (Value.int .u8 (k : Int)) = some (Value.int .u8 ((UInt8.ofNat k).toNat : Int)) := fun k hk => by rw [toNat_ofNat k hk]
  match j, hj with
  | 0, _ => exact hb (c % 256) (by omega)
  | 1, _ => exact hb (c / 256 % 256) (by omega)
  | 2, _ => exact hb (c / 65536 % 256) (by omega)
  | 3, _ => exact hb (c / 16777216 % 256) (by omega)

set_option maxHeartbeats 1000000 in
theorem spec_four (c : Nat) (hc : c < 4294967296) (w : World) :
    Calls Tryd.prog 51 #[.int .i64 c] w fun e w' => e = .returned (.string (four c)) ∧ Below w.heap.size w w' := by
  have h4 := conv4 c w
  rw [show ((c : Int) / 16777216 % 256) = (c : Int) / 16777216 by omega] at h4
  go_enter Tryd.func51, Tryd.ntmps51
  go_wp2
  go_ret
  exact ⟨rfl, (Below.refl _ _).alloc (Nat.le_refl _) _⟩

theorem arr4 : Tryd.prog.arrayLen 102 = 4 := by kernel_rfl
theorem size4 (W : World) : (sizeOf (Tryd.prog.elem 102)).run Tryd.prog W = .ok 1 W := by kernel_rfl
theorem slice4 (g : Nat) (W : World) :
    (Instr.sliceAt 102 (.pointer (some ⟨g, 0, none⟩)) none none none).run Tryd.prog W = .ok (.slice (some ⟨g, 0, none⟩) 4 4) W := by
  rw [run_sliceAt_array_all W 102 _ (by kernel_rfl), size4, arr4]
  simp [slicedAt, Addr.add]
theorem arr_new4 (w : World) : Arr (w.alloc (.cells #[.int .u8 0, .int .u8 0, .int .u8 0, .int .u8 0] 102)) w.heap.size [0, 0, 0, 0] := by
  constructor
  · intro j hj
    have : j < 4 := hj
    rw [World.cell?_alloc_mark]
    match j, this with
    | 0, _ | 1, _ | 2, _ | 3, _ => rfl
  · intro j
    rw [World.frozen?_alloc_mark]; simp
theorem byteIs (c k : Nat) (hk : k < 4) : Value.int .u8 ((c : Int) / 2 ^ (8 * k) % 256) = bv ((fourL c)[k]'hk) := by
  have e : (c : Int) / 2 ^ (8 * k) % 256 = ((c / 2 ^ (8 * k) % 256 : Nat) : Int) := by rw [Int.natCast_emod, Int.natCast_ediv, Int.natCast_pow]; rfl
  rw [e]
  match k, hk with
  | 0, _ => show Value.int .u8 ((c / 1 % 256 : Nat) : Int) = _; rw [Nat.div_one]; exact bv_of (c % 256) (by omega)
  | 1, _ => exact bv_of (c / 256 % 256) (by omega)
  | 2, _ => exact bv_of (c / 65536 % 256) (by omega)
  | 3, _ => exact bv_of (c / 16777216 % 256) (by omega)

set_option maxRecDepth 100000 in
set_option maxHeartbeats 1000000 in
theorem impl_sumOf (s : ByteArray) (hs : s.size ≤ maxLen) (w : World) :
    Calls Tryd.prog 48 #[.string s] w fun e w' => e = .returned (.string (four (crcN s))) ∧ Below w.heap.size w w' := by
  have hcl := crcN_lt s
  have hK := fun W => impl_Crc s hs W
  rw [crc_eq s] at hK
  generalize crcN s = c at hcl hK
  have HK := Lib.hid hK
  clear hK
  go_enter Tryd.func48, Tryd.ntmps48
  go_wp2_with fail
  refine (HK.out _).mono ?_
  rintro e w1 ⟨rfl, rfl⟩
  go_wp2
  go_loopw [8] (fun i wr => ∃ (k : Nat) (l : List UInt8), k ≤ 4 ∧ i = .int .i64 k ∧ l.length = 4 ∧ l.take k = (fourL c).take k ∧ Arr wr w.heap.size l ∧ Below w.heap.size w wr) (fun i _ => 4 - (intOf i).toNat)
  case atStart => exact ⟨0, [0, 0, 0, 0], by omega, rfl, rfl, rfl, arr_new4 w, (Below.refl _ _).alloc (Nat.le_refl _) _⟩
  case round =>
    obtain ⟨k, l, hk, rfl, hl, htk, harr, hbel⟩ := hrel
    have HL := Lib.hid hl
    have HT := Lib.hid htk
    have HA := Lib.hid harr
    clear hl htk harr
    by_cases h4 : k < 4
    · have c1 := HA.out.cell k (by rw [HL.out]; omega)
      have c2 := HA.out.free k
      generalize l[k]'(by rw [HL.out]; omega) = lk at c1
      go_wp2
      go_roundw
      case rel =>
        refine ⟨k + 1, l.set k ((fourL c)[k]'h4), by omega, by go_num, ?_, ?_, ?_, hbel.setCell (Nat.le_refl _) _⟩
        · rw [List.length_set]; exact HL.out
        · rw [take_set _ _ (by rw [HL.out]; omega), HT.out, List.take_succ_eq_append_getElem (show k < (fourL c).length from h4)]; rfl
        · rw [byteIs c k h4]; exact HA.out.set k (by rw [HL.out]; omega) _
      case measure => go_light; simp [intOf]; omega
    · have hk4 : k = 4 := by omega
      subst hk4
      have hs4 := slice4 w.heap.size
      have hc := HA.out.string 4 4 (by rw [HL.out]; omega)
      rw [HT.out] at hc
      go_wp2
      go_ret
      exact ⟨rfl, hbel⟩

set_option maxRecDepth 100000 in
set_option maxHeartbeats 1000000 in
theorem spec_Seal (s : ByteArray) (hs : s.size ≤ maxLen) (w : World) :
    Calls Tryd.prog 29 #[.string s] w fun e w' => e = .returned (.string (sealed s)) ∧ Below w.heap.size w w' := by
  have hs' := hs
  unfold maxLen at hs
  by_cases h1 : 7996 < s.size
  · go_enter Tryd.func29, Tryd.ntmps29
    go_wp2
    go_ret
    exact ⟨ret_str (sealed_long s h1).symm, Below.refl _ _⟩
  · have hK := fun W => spec_l01Crc 0 (by omega) s hs' W
    rw [← crcN_short s (by omega)] at hK
    have HE := Lib.hid (sealed_short s h1)
    have hcl := crcN_lt s
    generalize crcN s = c at hcl hK HE
    have HK := Lib.hid hK
    clear hK
    have hz := four_size c
    have hsum : s.size + (four c).size ≤ 8000 := by omega
    clear hz
    go_enter Tryd.func29, Tryd.ntmps29
    go_wp2_with fail
    refine (HK.out _).mono ?_
    rintro e w1 ⟨rfl, rfl⟩
    go_wp2_with fail
    refine (spec_four c hcl _).mono ?_
    rintro e w2 ⟨rfl, hb2⟩
    go_wp2
    go_ret
    exact ⟨ret_str HE.out.symm, hb2⟩

set_option maxRecDepth 100000 in
set_option maxHeartbeats 1000000 in
theorem impl_Seal (s : ByteArray) (hs : s.size ≤ maxLen) (w : World) :
    Calls Tryd.prog 23 #[.string s] w fun e w' => e = .returned (.string (sealed s)) ∧ Below w.heap.size w w' := by
  have hs' := hs
  unfold maxLen at hs
  by_cases h1 : 7996 < s.size
  · go_enter Tryd.func23, Tryd.ntmps23
    go_wp2
    go_ret
    exact ⟨ret_str (sealed_long s h1).symm, Below.refl _ _⟩
  · have hK := fun W => impl_sumOf s hs' W
    have HE := Lib.hid (sealed_short s h1)
    have hz := four_size (crcN s)
    generalize four (crcN s) = f at hK HE hz
    have HK := Lib.hid hK
    have hsum : s.size + f.size ≤ 8000 := by omega
    clear hK hz
    go_enter Tryd.func23, Tryd.ntmps23
    go_wp2_with fail
    refine (HK.out _).mono ?_
    rintro e w1 ⟨rfl, hb1⟩
    go_wp2_with fail
    refine (joined_two s f w1 (by omega)).mono ?_
    rintro e w2 ⟨rfl, hb2⟩
    go_wp2
    go_ret
    exact ⟨ret_str HE.out.symm, hb1.trans (hb2.mono hb1.size)⟩

end Go.Proofs.YtiaoifodaoifjaaDoor.Se
