/- Parts of a law: Seal, Frame2, Cells9, MsgVar, MarkText, TRow, MarkLaw, SibLaw, MarkOpen, SetLaw0, SetMark, SetOutLaw, PosMath, SibLess, SpecIn, SetOut2, CopyRow, CopySet, Labels, SeenLw. Conditions: on sizes, as each says. -/
import Derived.Test.YtiaoifodaoifjaaDoorZ1
import Derived.Test.YtiaoifodaoifjaaDoorZ2
import Derived.Deep.RegionHeld3
import Derived.StillTailTactics
import Derived.Deep.SlicePairs
import Derived.Lib.SmallJoins
import Derived.ChangeArms
import Derived.Deep.Strs
import Derived.Laws.OwnMore
import Derived.Deep.AppendLies
import Derived.Lib.SliceRun
import Derived.ScopeJumps
set_option linter.unusedSimpArgs false
set_option linter.unusedVariables false
namespace Go.Proofs.YtiaoifodaoifjaaDoor.Se
open Go.RowKit Nu Cr
def crcN (s : ByteArray) : Nat := (crc s).toNat
theorem crcN_short (s : ByteArray) (h : ¬ 8000 < s.size) : crcN s = creg s.data.toList (0 ^^^ 4294967295) ^^^ 4294967295 := by
  unfold crcN crc
  have := crcMore_nat 0 s h (by omega)
  rw [show ((0 : Nat) : Int) = 0 from rfl] at this
  rw [this]; simp
theorem crcN_lt (s : ByteArray) : crcN s < 4294967296 := by
  by_cases h : 8000 < s.size
  · unfold crcN crc; rw [crcMore_zero 0 s (.inl h)]; simp
  · rw [crcN_short s h]
    exact xor_lt _ _ (creg_lt _ _ (xor_lt _ _ (by omega) (by omega))) (by omega)
theorem crc_eq (s : ByteArray) : crc s = (crcN s : Nat) := by
  by_cases h : 8000 < s.size
  · unfold crcN crc; rw [crcMore_zero 0 s (.inl h)]; rfl
  · have := crcMore_nat 0 s h (by omega)
    rw [show ((0 : Nat) : Int) = 0 from rfl] at this
    rw [crcN_short s h]; exact this
def fourL (c : Nat) : List UInt8 := [UInt8.ofNat (c % 256), UInt8.ofNat (c / 256 % 256), UInt8.ofNat (c / 65536 % 256), UInt8.ofNat (c / 16777216 % 256)]
def four (c : Nat) : ByteArray := ⟨(fourL c).toArray⟩
theorem four_size (c : Nat) : (four c).size = 4 := rfl
def sealed (s : ByteArray) : ByteArray := if 7996 < s.size then ⟨#[]⟩ else s ++ four (crcN s)
theorem sealed_long (s : ByteArray) (h : 7996 < s.size) : sealed s = ⟨#[]⟩ := if_pos h
theorem sealed_short (s : ByteArray) (h : ¬ 7996 < s.size) : sealed s = s ++ four (crcN s) := if_neg h
theorem ret_str {a b : ByteArray} (h : a = b) : Ending.returned (.string a) = .returned (.string b) := by rw [h]
theorem conv4 (c : Nat) (w : World) :
    (convert 22 9 (.slice (some ⟨w.heap.size, 0, none⟩) 4 4)).run Tryd.prog (w.alloc (.cells #[.int .u8 ((c : Int) % 256), .int .u8 ((c : Int) / 256 % 256), .int .u8 ((c : Int) / 65536 % 256), .int .u8 ((c : Int) / 16777216 % 256)] 5)) =
      .ok (.string (four c)) (w.alloc (.cells #[.int .u8 ((c : Int) % 256), .int .u8 ((c : Int) / 256 % 256), .int .u8 ((c : Int) / 65536 % 256), .int .u8 ((c : Int) / 16777216 % 256)] 5)) := by
  refine run_convert_bytes_back (P := Tryd.prog) _ 22 9 5 ⟨w.heap.size, 0, none⟩ 4 (fourL c) Tryd.underlying22 Tryd.underlying5 Tryd.underlying9 (fun j hj => ?_)
  have e : (⟨w.heap.size, 0, none⟩ : Addr).add j = ⟨w.heap.size, j, none⟩ := by unfold Addr.add; split <;> simp_all
  rw [e, World.cell?_alloc_mark]
  have hb : ∀ k : Nat, k < 256 → some (Value.int .u8 (k : Int)) = some (Value.int .u8 ((UInt8.ofNat k).toNat : Int)) := fun k hk => by rw [toNat_ofNat k hk]
  match j, hj with
  | 0, _ => exact hb (c % 256) (by omega)
  | 1, _ => exact hb (c / 256 % 256) (by omega)
  | 2, _ => exact hb (c / 65536 % 256) (by omega)
  | 3, _ => exact hb (c / 16777216 % 256) (by omega)
set_option maxHeartbeats 1000000 in
theorem spec_four (c : Nat) (hc : c < 4294967296) (w : World) :
    Calls Tryd.prog 51 #[.int .i64 c] w fun e w' => e = .returned (.string (four c)) ∧ Below w.heap.size w w' := by
  have h4 := conv4 c w
  rw [show ((c : Int) / 16777216 % 256) = (c : Int) / 16777216 by omega] at h4
  go_enter Tryd.func51, Tryd.ntmps51
  go_wp2
  go_ret
  exact ⟨rfl, (Below.refl _ _).alloc (Nat.le_refl _) _⟩
theorem arr4 : Tryd.prog.arrayLen 102 = 4 := by kernel_rfl
theorem size4 (W : World) : (sizeOf (Tryd.prog.elem 102)).run Tryd.prog W = .ok 1 W := by kernel_rfl
theorem slice4 (g : Nat) (W : World) :
    (Instr.sliceAt 102 (.pointer (some ⟨g, 0, none⟩)) none none none).run Tryd.prog W = .ok (.slice (some ⟨g, 0, none⟩) 4 4) W := by
  rw [run_sliceAt_array_all W 102 _ (by kernel_rfl), size4, arr4]
  simp [slicedAt, Addr.add]
theorem arr_new4 (w : World) : Arr (w.alloc (.cells #[.int .u8 0, .int .u8 0, .int .u8 0, .int .u8 0] 102)) w.heap.size [0, 0, 0, 0] := by
  constructor
  · intro j hj
    have : j < 4 := hj
    rw [World.cell?_alloc_mark]
    match j, this with
    | 0, _ | 1, _ | 2, _ | 3, _ => rfl
  · intro j
    rw [World.frozen?_alloc_mark]; simp
theorem byteIs (c k : Nat) (hk : k < 4) : Value.int .u8 ((c : Int) / 2 ^ (8 * k) % 256) = bv ((fourL c)[k]'hk) := by
  have e : (c : Int) / 2 ^ (8 * k) % 256 = ((c / 2 ^ (8 * k) % 256 : Nat) : Int) := by rw [Int.natCast_emod, Int.natCast_ediv, Int.natCast_pow]; rfl
  rw [e]
  match k, hk with
  | 0, _ => show Value.int .u8 ((c / 1 % 256 : Nat) : Int) = _; rw [Nat.div_one]; exact bv_of (c % 256) (by omega)
  | 1, _ => exact bv_of (c / 256 % 256) (by omega)
  | 2, _ => exact bv_of (c / 65536 % 256) (by omega)
  | 3, _ => exact bv_of (c / 16777216 % 256) (by omega)
set_option maxRecDepth 100000 in
set_option maxHeartbeats 1000000 in
theorem impl_sumOf (s : ByteArray) (hs : s.size ≤ maxLen) (w : World) :
    Calls Tryd.prog 48 #[.string s] w fun e w' => e = .returned (.string (four (crcN s))) ∧ Below w.heap.size w w' := by
  have hcl := crcN_lt s
  have hK := fun W => impl_Crc s hs W
  rw [crc_eq s] at hK
  generalize crcN s = c at hcl hK
  have HK := jj hK
  clear hK
  go_enter Tryd.func48, Tryd.ntmps48
  go_wp2_with fail
  refine (HK.out _).mono ?_
  rintro e w1 ⟨rfl, rfl⟩
  go_wp2
  go_loopw [8] (fun i wr => ∃ (k : Nat) (l : List UInt8), k ≤ 4 ∧ i = .int .i64 k ∧ l.length = 4 ∧ l.take k = (fourL c).take k ∧ Arr wr w.heap.size l ∧ Below w.heap.size w wr) (fun i _ => 4 - (intOf i).toNat)
  case atStart => exact ⟨0, [0, 0, 0, 0], by omega, rfl, rfl, rfl, arr_new4 w, (Below.refl _ _).alloc (Nat.le_refl _) _⟩
  case round =>
    obtain ⟨k, l, hk, rfl, hl, htk, harr, hbel⟩ := hrel
    have HL := jj hl
    have HT := jj htk
    have HA := jj harr
    clear hl htk harr
    by_cases h4 : k < 4
    · have c1 := HA.out.cell k (by rw [HL.out]; omega)
      have c2 := HA.out.free k
      generalize l[k]'(by rw [HL.out]; omega) = lk at c1
      go_wp2
      go_roundw
      case rel =>
        refine ⟨k + 1, l.set k ((fourL c)[k]'h4), by omega, by go_num, ?_, ?_, ?_, hbel.setCell (Nat.le_refl _) _⟩
        · rw [List.length_set]; exact HL.out
        · rw [take_set _ _ (by rw [HL.out]; omega), HT.out, List.take_succ_eq_append_getElem (show k < (fourL c).length from h4)]; rfl
        · rw [byteIs c k h4]; exact HA.out.set k (by rw [HL.out]; omega) _
      case measure => go_light; simp [intOf]; omega
    · have hk4 : k = 4 := by omega
      subst hk4
      have hs4 := slice4 w.heap.size
      have hc := HA.out.string 4 4 (by rw [HL.out]; omega)
      rw [HT.out] at hc
      go_wp2
      go_ret
      exact ⟨rfl, hbel⟩
set_option maxRecDepth 100000 in
set_option maxHeartbeats 1000000 in
theorem spec_Seal (s : ByteArray) (hs : s.size ≤ maxLen) (w : World) :
    Calls Tryd.prog 29 #[.string s] w fun e w' => e = .returned (.string (sealed s)) ∧ Below w.heap.size w w' := by
  have hs' := hs
  unfold maxLen at hs
  by_cases h1 : 7996 < s.size
  · go_enter Tryd.func29, Tryd.ntmps29
    go_wp2
    go_ret
    exact ⟨ret_str (sealed_long s h1).symm, Below.refl _ _⟩
  · have hK := fun W => spec_l01Crc 0 (by omega) s hs' W
    rw [← crcN_short s (by omega)] at hK
    have HE := jj (sealed_short s h1)
    have hcl := crcN_lt s
    generalize crcN s = c at hcl hK HE
    have HK := jj hK
    clear hK
    have hz := four_size c
    have hsum : s.size + (four c).size ≤ 8000 := by omega
    clear hz
    go_enter Tryd.func29, Tryd.ntmps29
    go_wp2_with fail
    refine (HK.out _).mono ?_
    rintro e w1 ⟨rfl, rfl⟩
    go_wp2_with fail
    refine (spec_four c hcl _).mono ?_
    rintro e w2 ⟨rfl, hb2⟩
    go_wp2
    go_ret
    exact ⟨ret_str HE.out.symm, hb2⟩
set_option maxRecDepth 100000 in
set_option maxHeartbeats 1000000 in
theorem impl_Seal (s : ByteArray) (hs : s.size ≤ maxLen) (w : World) :
    Calls Tryd.prog 23 #[.string s] w fun e w' => e = .returned (.string (sealed s)) ∧ Below w.heap.size w w' := by
  have hs' := hs
  unfold maxLen at hs
  by_cases h1 : 7996 < s.size
  · go_enter Tryd.func23, Tryd.ntmps23
    go_wp2
    go_ret
    exact ⟨ret_str (sealed_long s h1).symm, Below.refl _ _⟩
  · have hK := fun W => impl_sumOf s hs' W
    have HE := jj (sealed_short s h1)
    have hz := four_size (crcN s)
    generalize four (crcN s) = f at hK HE hz
    have HK := jj hK
    have hsum : s.size + f.size ≤ 8000 := by omega
    clear hK hz
    go_enter Tryd.func23, Tryd.ntmps23
    go_wp2_with fail
    refine (HK.out _).mono ?_
    rintro e w1 ⟨rfl, hb1⟩
    go_wp2_with fail
    refine (joined_two s f w1 (by omega)).mono ?_
    rintro e w2 ⟨rfl, hb2⟩
    go_wp2
    go_ret
    exact ⟨ret_str HE.out.symm, hb1.trans (hb2.mono hb1.size)⟩
end Go.Proofs.YtiaoifodaoifjaaDoor.Se
namespace Go.Proofs.YtiaoifodaoifjaaDoor.Rw
open Go.RowKit Go.Proofs.YtiaoifodaoifjaaDoor.Mk
structure Cells (w : World) (g : Nat) (vs : List Value) : Prop where
  cell : ∀ i (h : i < vs.length), w.cell? ⟨g, i, none⟩ = some vs[i]
  free : ∀ i, w.frozen? ⟨g, i, none⟩ = false
  lt : g < w.heap.size
theorem Cells.same {w w' : World} {g : Nat} {vs : List Value} (h : Cells w g vs) (hs : w'.heap[g]? = w.heap[g]?) (hz : w.heap.size ≤ w'.heap.size) : Cells w' g vs :=
  ⟨fun i hi => (World.cell?_of_block (a := ⟨g, i, none⟩) hs).trans (h.cell i hi), fun i => (World.frozen?_of_block (a := ⟨g, i, none⟩) hs).trans (h.free i), Nat.lt_of_lt_of_le h.lt hz⟩
theorem Cells.below {w w' : World} {g : Nat} {vs : List Value} (h : Cells w g vs) (hb : Below w.heap.size w w') : Cells w' g vs := h.same (hb.block g h.lt) hb.size
theorem Cells.within {w w' : World} {lo hi g : Nat} {vs : List Value} (h : Cells w g vs) (hw : Within lo hi w w') (ha : g < lo ∨ hi ≤ g) : Cells w' g vs := h.same (hw.block g h.lt ha) hw.size
theorem Cells.new (w : World) (vs : Array Value) (t : TypeId) : Cells (w.alloc (.cells vs t)) w.heap.size vs.toList :=
  ⟨fun i hi => by
    have hi' : i < vs.size := by simpa using hi
    rw [World.cell?_alloc_mark]; simp [hi'],
   fun i => by rw [World.frozen?_alloc_mark]; simp, by simp⟩
theorem Cells.set {w : World} {g : Nat} {vs : List Value} (h : Cells w g vs) (i : Nat) (hi : i < vs.length) (x : Value) : Cells (w.setCell ⟨g, i, none⟩ x) g (vs.set i x) :=
  ⟨fun j hj => by
    have hj' : j < vs.length := by simpa using hj
    by_cases e : i = j
    · subst e; rw [World.cell?_setCell_same _ _ _ (h.cell i hi), List.getElem_set_self]
    · rw [World.cell?_setCell_other _ _ _ _ (ne_off e), h.cell j hj', List.getElem_set_ne e],
   fun j => by rw [World.frozen?_setCell]; exact h.free j, by simpa [World.setCell] using h.lt⟩
theorem Cells.c2 {w : World} {g : Nat} {u v : Value} (h : Cells w g [u, v]) : w.cell? ⟨g, 0, none⟩ = some u ∧ w.cell? ⟨g, 1, none⟩ = some v ∧ w.frozen? ⟨g, 0, none⟩ = false ∧ w.frozen? ⟨g, 1, none⟩ = false :=
  ⟨h.cell 0 (by simp), h.cell 1 (by simp), h.free 0, h.free 1⟩
theorem Cells.c3 {w : World} {g : Nat} {u v x : Value} (h : Cells w g [u, v, x]) : w.cell? ⟨g, 0, none⟩ = some u ∧ w.cell? ⟨g, 1, none⟩ = some v ∧ w.cell? ⟨g, 2, none⟩ = some x ∧ w.frozen? ⟨g, 0, none⟩ = false ∧ w.frozen? ⟨g, 1, none⟩ = false ∧ w.frozen? ⟨g, 2, none⟩ = false :=
  ⟨h.cell 0 (by simp), h.cell 1 (by simp), h.cell 2 (by simp), h.free 0, h.free 1, h.free 2⟩
theorem Cells.c4 {w : World} {g : Nat} {u v x y : Value} (h : Cells w g [u, v, x, y]) : w.cell? ⟨g, 0, none⟩ = some u ∧ w.cell? ⟨g, 1, none⟩ = some v ∧ w.cell? ⟨g, 2, none⟩ = some x ∧ w.cell? ⟨g, 3, none⟩ = some y ∧ w.frozen? ⟨g, 0, none⟩ = false ∧ w.frozen? ⟨g, 1, none⟩ = false ∧ w.frozen? ⟨g, 2, none⟩ = false ∧ w.frozen? ⟨g, 3, none⟩ = false :=
  ⟨h.cell 0 (by simp), h.cell 1 (by simp), h.cell 2 (by simp), h.cell 3 (by simp), h.free 0, h.free 1, h.free 2, h.free 3⟩
theorem Cells.c5 {w : World} {g : Nat} {u v x y z : Value} (h : Cells w g [u, v, x, y, z]) : w.cell? ⟨g, 0, none⟩ = some u ∧ w.cell? ⟨g, 1, none⟩ = some v ∧ w.cell? ⟨g, 2, none⟩ = some x ∧ w.cell? ⟨g, 3, none⟩ = some y ∧ w.cell? ⟨g, 4, none⟩ = some z ∧
    w.frozen? ⟨g, 0, none⟩ = false ∧ w.frozen? ⟨g, 1, none⟩ = false ∧ w.frozen? ⟨g, 2, none⟩ = false ∧ w.frozen? ⟨g, 3, none⟩ = false ∧ w.frozen? ⟨g, 4, none⟩ = false :=
  ⟨h.cell 0 (by simp), h.cell 1 (by simp), h.cell 2 (by simp), h.cell 3 (by simp), h.cell 4 (by simp), h.free 0, h.free 1, h.free 2, h.free 3, h.free 4⟩
theorem size_set (w : World) (p : Addr) (v : Value) : (w.setCell p v).heap.size = w.heap.size := by simp [World.setCell]
end Go.Proofs.YtiaoifodaoifjaaDoor.Rw
namespace Go.Proofs.YtiaoifodaoifjaaDoor.Sb
open Go.RowKit Go.Proofs.YtiaoifodaoifjaaDoor.Mk Go.Proofs.YtiaoifodaoifjaaDoor.Rw
theorem Within.below' {lo hi : Nat} {a b c : World} (h : Within lo hi a b) (k : Below b.heap.size b c) : Within lo hi a c :=
  ⟨k.os.trans h.os, k.tape.trans h.tape, k.output.trans h.output, Nat.le_trans h.size k.size, fun i hi ho => (k.block i (Nat.lt_of_lt_of_le hi h.size)).trans (h.block i hi ho)⟩
theorem Within.mono {lo hi g : Nat} {a b : World} (h : Within g (g + 1) a b) (h1 : lo ≤ g) (h2 : g < hi) : Within lo hi a b :=
  ⟨h.os, h.tape, h.output, h.size, fun i hi ho => h.block i hi (by omega)⟩
open Go.RowKit Go.Proofs.YtiaoifodaoifjaaDoor.Mk Go.Proofs.YtiaoifodaoifjaaDoor.Rw
theorem Within.wide {lo hi lo' hi' : Nat} {a b : World} (h : Within lo' hi' a b) (h1 : lo ≤ lo') (h2 : hi' ≤ hi) : Within lo hi a b :=
  ⟨h.os, h.tape, h.output, h.size, fun i hi ho => h.block i hi (by omega)⟩
open Go.Proofs.YtiaoifodaoifjaaDoor.Mk
theorem lessB_iff (a b : Int × Int) : lessB a b = true ↔ a.1 < b.1 ∨ (a.1 = b.1 ∧ a.2 < b.2) := by unfold lessB; simp
theorem less_trans {a b c : Int × Int} (h : lessB a b = true) (k : lessB b c = true) : lessB a c = true := by
  rw [lessB_iff] at *; omega
theorem less_asymm {a b : Int × Int} (h : lessB a b = true) : lessB b a = false := by
  rw [← Bool.not_eq_true, lessB_iff]
  rw [lessB_iff] at h
  omega
theorem Inc.lt {s : List Sib} (h : Inc s) : ∀ (n q : Nat), q + n + 1 < s.length → lessB (s.getD q z0).1 (s.getD (q + n + 1) z0).1 = true
  | 0, q, hq => h q hq
  | n + 1, q, hq => less_trans (Inc.lt h n q (by omega)) (h (q + n + 1) (by omega))
def Mono (s : List Sib) : Prop := ∀ k, k + 1 < s.length → lessB (s.getD (k + 1) z0).1 (s.getD k z0).1 = false
theorem Inc.mono {s : List Sib} (h : Inc s) : Mono s := fun k hk => less_asymm (h k hk)
theorem le_trans {a b c : Int × Int} (h : lessB b a = false) (k : lessB c b = false) : lessB c a = false := by
  rw [← Bool.not_eq_true, lessB_iff] at *; omega
end Go.Proofs.YtiaoifodaoifjaaDoor.Sb
namespace Go.Proofs.YtiaoifodaoifjaaDoor.La
open Go
def exitTo (J : Nat → Act → World → Prop) (Q : Exit → Act → World → Prop) : Exit → Act → World → Prop
  | .goto l, a, w => J l a w
  | e, a, w => Q e a w
section
variable {P : Program} {a : Act} {w : World} {Q : Exit → Act → World → Prop}
theorem wp_scope_labels {c : Code} (J : Nat → Act → World → Prop) (μ : Nat → Act → World → Nat)
    (first : c.wp P (exitTo J Q) a w)
    (pass : ∀ l a w, J l a w → ∃ rest, findLabel c l = some rest ∧ rest.wp P (exitTo (fun l' a' w' => J l' a' w' ∧ μ l' a' w' < μ l a w) Q) a w) : (Code.scope c).wp P Q a w := by
  intro b k cs
  have key : ∀ n l a w, μ l a w = n → J l a w → ∃ rest, findLabel c l = some rest ∧ ∃ e a' w', Q e a' w' ∧ Arrives P (lone (b.at a (.code rest :: .inScope c :: k)) cs w) b k cs e a' w' := by
    intro n
    induction n using Nat.strongRecOn with
    | _ n ih =>
      intro l a w hn hJ
      obtain ⟨rest, hf, hwp⟩ := pass l a w hJ
      refine ⟨rest, hf, ?_⟩
      obtain ⟨e, a₁, w₁, hq, harr⟩ := hwp b (.inScope c :: k) cs
      cases e with
      | normal => exact ⟨.normal, a₁, w₁, hq, Steps.trans harr (.one step_inScope)⟩
      | exit id => exact ⟨.exit id, a₁, w₁, hq, fun k' hk => harr k' (by simp [Go.exitTo, hk])⟩
      | goto l' =>
        obtain ⟨hJ', hlt⟩ := hq
        obtain ⟨rest', hf', e₂, a₂, w₂, hq₂, harr₂⟩ := ih _ (by omega) l' a₁ w₁ rfl hJ'
        have hg : gotoIn l' (.inScope c :: k) = some (.code rest' :: .inScope c :: k) := by simp [gotoIn, hf']
        exact ⟨e₂, a₂, w₂, hq₂, .of_steps (harr _ hg) harr₂⟩
      | ret => exact ⟨_, a₁, w₁, hq, harr⟩
      | panic ch => exact ⟨_, a₁, w₁, hq, harr⟩
      | outgrown => exact ⟨_, a₁, w₁, hq, harr⟩
  obtain ⟨e, a₁, w₁, hq, harr⟩ := first b (.inScope c :: k) cs
  cases e with
  | normal => exact ⟨.normal, a₁, w₁, hq, .head step_scope (Steps.trans harr (.one step_inScope))⟩
  | exit id => exact ⟨.exit id, a₁, w₁, hq, fun k' hk => .head step_scope (harr k' (by simp [Go.exitTo, hk]))⟩
  | goto l' =>
    obtain ⟨rest', hf', e₂, a₂, w₂, hq₂, harr₂⟩ := key _ l' a₁ w₁ rfl hq
    have hg : gotoIn l' (.inScope c :: k) = some (.code rest' :: .inScope c :: k) := by simp [gotoIn, hf']
    exact ⟨e₂, a₂, w₂, hq₂, .of_steps (.head step_scope (harr _ hg)) harr₂⟩
  | ret => exact ⟨_, a₁, w₁, hq, .of_steps (.one step_scope) harr⟩
  | panic ch => exact ⟨_, a₁, w₁, hq, .of_steps (.one step_scope) harr⟩
  | outgrown => exact ⟨_, a₁, w₁, hq, .of_steps (.one step_scope) harr⟩
end
end Go.Proofs.YtiaoifodaoifjaaDoor.La
namespace Go.Proofs.YtiaoifodaoifjaaDoor.Mk
open Go.RowKit
set_option maxRecDepth 100000 in
set_option maxHeartbeats 1000000 in
theorem lw_seen (a b : Option Addr) (cap cap' : Nat) (l l' : List (Int × Int)) (w : World) (hl : l.length ≤ maxLen) (hl' : l'.length ≤ maxLen) (h : MarksAt w a l) (h' : MarksAt w b l') :
    Calls Tryd.prog 11 #[.slice a l.length cap, .slice b l'.length cap'] w fun e w' => e = .returned (.bool (decide (l = l'))) ∧ Below w.heap.size w w' := by
  have H := jj h
  have H' := jj h'
  clear h h'
  unfold maxLen at hl hl'
  by_cases hn : l.length = l'.length
  · have hd : ((l.length : Int) == (l'.length : Int)) = true := by simp [hn]
    have HL := jj hn
    go_enter Tryd.func11, Tryd.ntmps11
    go_wp2
    go_loopw [5] (fun i wr => ∃ (k : Nat), k ≤ l.length ∧ i = .int .i64 k ∧ (∀ j (h1 : j < l.length) (h2 : j < l'.length), j < k → l[j] = l'[j]) ∧ Below w.heap.size w wr) (fun i _ => l.length - (intOf i).toNat)
    case atStart => exact ⟨0, Nat.zero_le _, rfl, fun j _ _ h => absurd h (Nat.not_lt_zero _), Below.refl _ _⟩
    case round =>
      obtain ⟨k, hk, rfl, hsame, hbel⟩ := hrel
      have HB := jj hbel
      have HS := jj hsame
      clear hbel hsame
      by_cases hlt : k < l.length
      · have hlt' : k < l'.length := HL.out ▸ hlt
        obtain ⟨g, off, rfl, hg, c0, c1⟩ := (H.out.mono HB.out).cells hlt
        obtain ⟨g', off', rfl, hg', c0', c1'⟩ := (H'.out.mono HB.out).cells hlt'
        have hX : l[k] = l'[k] → ∀ j (h1 : j < l.length) (h2 : j < l'.length), j < k + 1 → l[j] = l'[j] := fun he j h1 h2 hj => by
          by_cases hjk : j < k
          · exact HS.out j h1 h2 hjk
          · have : j = k := by omega
            subst this; exact he
        have hY : l[k] ≠ l'[k] → l ≠ l' := fun hne he => hne (by subst he; rfl)
        have HX := jj hX
        have HY := jj hY
        clear hX hY
        generalize l[k] = m at c0 c1 HX HY
        generalize l'[k] = m' at c0' c1' HX HY
        obtain ⟨x, y⟩ := m
        obtain ⟨x', y'⟩ := m'
        simp only at c0 c1 c0' c1'
        have i0 : (0 : Int) ≤ (k : Int) := by omega
        have i1 : (k : Int) < (l.length : Int) := by omega
        have i2 : (k : Int) < (l'.length : Int) := by omega
        by_cases hx : x = x' ∧ y = y'
        · obtain ⟨rfl, rfl⟩ := hx
          have HZ := jj (HX.out rfl)
          clear HX HY
          go_wp2_with fail
          go_region_held3 (fun w' => w'.cell? ⟨g, off + k * 2, none⟩ = some (.int .i64 x) ∧ w'.cell? ⟨g, off + k * 2 + 1, none⟩ = some (.int .i64 y) ∧ w'.cell? ⟨g', off' + k * 2, none⟩ = some (.int .i64 x) ∧ w'.cell? ⟨g', off' + k * 2 + 1, none⟩ = some (.int .i64 y)) (go_keep) (fail)
          have HQ := jj HB.out.drew
          go_wp2
          go_roundw
          case rel => exact ⟨k + 1, by omega, by go_num, HZ.out, HQ.out⟩
          case measure => go_light; simp [intOf]; omega
        · have hll : decide (l = l') = false := by
            simp only [decide_eq_false_iff_not]
            exact HY.out (by intro he; injection he with h1 h2; exact hx ⟨h1, h2⟩)
          have HN := jj hll
          clear hll
          by_cases h1 : x = x'
          · subst h1
            have h2 : (y == y') = false := by simp; exact fun h => hx ⟨rfl, h⟩
            clear hx
            go_wp2_with fail
            go_region_held3 (fun w' => w'.cell? ⟨g, off + k * 2, none⟩ = some (.int .i64 x) ∧ w'.cell? ⟨g, off + k * 2 + 1, none⟩ = some (.int .i64 y) ∧ w'.cell? ⟨g', off' + k * 2, none⟩ = some (.int .i64 x) ∧ w'.cell? ⟨g', off' + k * 2 + 1, none⟩ = some (.int .i64 y')) (go_keep) (fail)
            have HQ := jj HB.out.drew
            go_wp2
            go_ret
            exact ⟨ret_bool HN.out.symm, HQ.out⟩
          · have h2 : (x == x') = false := by simp; exact h1
            clear hx h1
            go_wp2_with fail
            go_region_held3 (fun w' => w'.cell? ⟨g, off + k * 2, none⟩ = some (.int .i64 x) ∧ w'.cell? ⟨g, off + k * 2 + 1, none⟩ = some (.int .i64 y) ∧ w'.cell? ⟨g', off' + k * 2, none⟩ = some (.int .i64 x') ∧ w'.cell? ⟨g', off' + k * 2 + 1, none⟩ = some (.int .i64 y')) (go_keep) (fail)
            have HQ := jj HB.out.drew
            go_wp2
            go_ret
            exact ⟨ret_bool HN.out.symm, HQ.out⟩
      · have he : l = l' := List.ext_getElem HL.out (fun j h1 h2 => HS.out j h1 h2 (by omega))
        have HN := jj (show decide (l = l') = true from decide_eq_true he)
        clear he
        go_wp2
        go_ret
        exact ⟨ret_bool HN.out.symm, HB.out⟩
  · have hd : ((l.length : Int) == (l'.length : Int)) = false := by simp; omega
    have HN := jj (show decide (l = l') = false from by simp only [decide_eq_false_iff_not]; exact fun he => hn (by rw [he]))
    go_enter Tryd.func11, Tryd.ntmps11
    go_wp2
    go_ret
    exact ⟨ret_bool HN.out.symm, Below.refl _ _⟩
end Go.Proofs.YtiaoifodaoifjaaDoor.Mk
