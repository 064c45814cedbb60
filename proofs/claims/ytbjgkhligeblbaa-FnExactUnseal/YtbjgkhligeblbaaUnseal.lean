/- Contracts of Unseal of the model and of the program; the law of Unseal over them. No condition. -/
import Derived.Test.YtbjgkhligeblbaaSeal
import Derived.Deep.RegionWith
import Derived.WalkSpells
import Derived.IntWalk
namespace Go.Proofs.Ytbjgkhligeblbaa.Se
open Go.RowKit Nu Cr

def out (t : ByteArray) (at_ code : Int) : Value := .agg #[.string t, .int .i64 at_, .int .i64 code]
/-- what both answer -/
def unsealed (s : ByteArray) : Value :=
  if 8000 < s.size then out ⟨#[]⟩ 0 2 else if s.size < 4 then out ⟨#[]⟩ 0 4
  else if s.extract (s.size - 4) s.size = four (crcN (s.extract 0 (s.size - 4))) then out (s.extract 0 (s.size - 4)) 0 0 else out ⟨#[]⟩ 0 5
theorem un_long (s : ByteArray) (h : 8000 < s.size) : out ⟨#[]⟩ 0 2 = unsealed s := (if_pos h).symm
theorem un_short (s : ByteArray) (h1 : ¬ 8000 < s.size) (h : s.size < 4) : out ⟨#[]⟩ 0 4 = unsealed s := by unfold unsealed; rw [if_neg h1, if_pos h]
theorem un_ok (s : ByteArray) (h1 : ¬ 8000 < s.size) (h2 : ¬ s.size < 4) (h : s.extract (s.size - 4) s.size = four (crcN (s.extract 0 (s.size - 4)))) : out (s.extract 0 (s.size - 4)) 0 0 = unsealed s := by
  unfold unsealed; rw [if_neg h1, if_neg h2, if_pos h]
theorem un_bad (s : ByteArray) (h1 : ¬ 8000 < s.size) (h2 : ¬ s.size < 4) (h : ¬ s.extract (s.size - 4) s.size = four (crcN (s.extract 0 (s.size - 4)))) : out ⟨#[]⟩ 0 5 = unsealed s := by
  unfold unsealed; rw [if_neg h1, if_neg h2, if_neg h]
theorem ret_val {a b : Value} (h : a = b) : Ending.returned a = .returned b := by rw [h]
theorem list_eq {a b : ByteArray} (h : a = b) : (a.toList == b.toList) = true := by rw [h]; exact beq_self_eq_true _
theorem list_ne {a b : ByteArray} (h : ¬ a = b) : (a.toList == b.toList) = false := by
  rw [ByteArray.toList_eq, ByteArray.toList_eq]
  apply beq_false_of_ne
  intro e
  apply h
  apply ByteArray.ext
  exact Array.toList_inj.1 e
/-- behind 'Below' every old cell and mark reads as before -/
theorem bcell {W w1 : World} (hb : Below W.heap.size W w1) : (∀ b o, b < W.heap.size → w1.cell? ⟨b, o, none⟩ = W.cell? ⟨b, o, none⟩) ∧ (∀ b o, b < W.heap.size → w1.frozen? ⟨b, o, none⟩ = W.frozen? ⟨b, o, none⟩) :=
  ⟨fun _ _ h => hb.cell h, fun _ _ h => hb.frozen h⟩

set_option maxRecDepth 100000 in
set_option maxHeartbeats 1000000 in
theorem spec_Unseal (s : ByteArray) (hs : s.size ≤ maxLen) (w : World) :
    Calls Try.prog 22 #[.string s] w fun e w' => e = .returned (unsealed s) ∧ Below w.heap.size w w' := by
  have hs' := hs
  unfold maxLen at hs
  by_cases h1 : 8000 < s.size
  · go_enter Try.func22, Try.ntmps22
    go_wp2
    exact bodyPost_ret (v := out ⟨#[]⟩ 0 2) (by simp [results, Try.results22, go_sem, out]) rfl ⟨ret_val (un_long s h1), (Below.refl _ _).alloc (Nat.le_refl _) _⟩
  by_cases h2 : s.size < 4
  · go_enter Try.func22, Try.ntmps22
    go_wp2
    exact bodyPost_ret (v := out ⟨#[]⟩ 0 4) (by simp [results, Try.results22, go_sem, out]) rfl ⟨ret_val (un_short s h1 h2), (Below.refl _ _).alloc (Nat.le_refl _) _⟩
  have hxs : (s.extract 0 (s.size - 4)).size = s.size - 4 := by simp
  have hK := fun W => spec_l01Crc 0 (by omega) (s.extract 0 (s.size - 4)) (by rw [hxs]; unfold maxLen; omega) W
  rw [← crcN_short _ (by rw [hxs]; omega)] at hK
  have HK := Lib.hid hK
  have hcl := crcN_lt (s.extract 0 (s.size - 4))
  clear hK hxs
  by_cases he : s.extract (s.size - 4) s.size = four (crcN (s.extract 0 (s.size - 4)))
  · have HE := Lib.hid (un_ok s h1 h2 he)
    have hle := list_eq he.symm
    clear he
    generalize crcN (s.extract 0 (s.size - 4)) = c at HK hcl hle
    have q1 : IntKind.i64.wrap ((s.size : Int) - 4) = (s.size : Int) - 4 := IntWalk.i64_in _ (by omega)
    have q2 : (4 : Int) ≤ (s.size : Int) := by omega
    have q3 : (0 : Int) ≤ (s.size : Int) - 4 := by omega
    have q4 : ((s.size : Int) - 4).toNat = s.size - 4 := by omega
    have q5 : (s.size : Int) - 4 ≤ (s.size : Int) := by omega
    go_enter Try.func22, Try.ntmps22
    go_wp2
    go_region_with (first
      | (go_at_call 30; refine (HK.out _).mono ?_; rintro e w1 ⟨rfl, rfl⟩)
      | (go_at_call 32; refine (spec_four c hcl _).mono ?_; rintro e w1 ⟨rfl, hb1⟩))
    obtain ⟨hcx, hfx⟩ := bcell hb1
    have hb0 : Below w.heap.size w w1 := (((Below.refl _ w).alloc (Nat.le_refl _) _).drew).trans (hb1.mono (by simp))
    go_wp2
    go_light
    refine bodyPost_ret (v := out (s.extract 0 (s.size - 4)) 0 0) (by simp [results, Try.results22, go_sem, out, hcx]) rfl ⟨ret_val HE.out, ?_⟩
    exact ((hb0.setCell (Nat.le_refl _) _).setCell (Nat.le_refl _) _).setCell (Nat.le_refl _) _
  · have HE := Lib.hid (un_bad s h1 h2 he)
    have hle := list_ne (fun h => he h.symm)
    clear he
    generalize crcN (s.extract 0 (s.size - 4)) = c at HK hcl hle
    have q1 : IntKind.i64.wrap ((s.size : Int) - 4) = (s.size : Int) - 4 := IntWalk.i64_in _ (by omega)
    have q2 : (4 : Int) ≤ (s.size : Int) := by omega
    have q3 : (0 : Int) ≤ (s.size : Int) - 4 := by omega
    have q4 : ((s.size : Int) - 4).toNat = s.size - 4 := by omega
    have q5 : (s.size : Int) - 4 ≤ (s.size : Int) := by omega
    go_enter Try.func22, Try.ntmps22
    go_wp2
    go_region_with (first
      | (go_at_call 30; refine (HK.out _).mono ?_; rintro e w1 ⟨rfl, rfl⟩)
      | (go_at_call 32; refine (spec_four c hcl _).mono ?_; rintro e w1 ⟨rfl, hb1⟩))
    obtain ⟨hcx, hfx⟩ := bcell hb1
    have hb0 : Below w.heap.size w w1 := (((Below.refl _ w).alloc (Nat.le_refl _) _).drew).trans (hb1.mono (by simp))
    go_wp2
    go_light
    refine bodyPost_ret (v := out ⟨#[]⟩ 0 5) (by simp [results, Try.results22, go_sem, out, hcx]) rfl ⟨ret_val HE.out, ?_⟩
    exact ((hb0.setCell (Nat.le_refl _) _).setCell (Nat.le_refl _) _).setCell (Nat.le_refl _) _

set_option maxRecDepth 100000 in
set_option maxHeartbeats 1000000 in
theorem impl_Unseal (s : ByteArray) (hs : s.size ≤ maxLen) (w : World) :
    Calls Try.prog 23 #[.string s] w fun e w' => e = .returned (unsealed s) ∧ Below w.heap.size w w' := by
  have hs' := hs
  unfold maxLen at hs
  by_cases h1 : 8000 < s.size
  · go_enter Try.func23, Try.ntmps23
    go_wp2
    exact bodyPost_ret (v := out ⟨#[]⟩ 0 2) (by simp [results, Try.results23, go_sem, out]) rfl ⟨ret_val (un_long s h1), (Below.refl _ _).alloc (Nat.le_refl _) _⟩
  by_cases h2 : s.size < 4
  · go_enter Try.func23, Try.ntmps23
    go_wp2
    exact bodyPost_ret (v := out ⟨#[]⟩ 0 4) (by simp [results, Try.results23, go_sem, out]) rfl ⟨ret_val (un_short s h1 h2), (Below.refl _ _).alloc (Nat.le_refl _) _⟩
  have hxs : (s.extract 0 (s.size - 4)).size = s.size - 4 := by simp
  have hK := fun W => impl_sumOf (s.extract 0 (s.size - 4)) (by rw [hxs]; unfold maxLen; omega) W
  have hJ := fun W => joined_one (s.extract 0 (s.size - 4)) W (by rw [hxs]; omega)
  have HK := Lib.hid hK
  have HJ := Lib.hid hJ
  clear hK hxs hJ
  have q1 : IntKind.i64.wrap ((s.size : Int) - 4) = (s.size : Int) - 4 := IntWalk.i64_in _ (by omega)
  have q2 : (4 : Int) ≤ (s.size : Int) := by omega
  have q3 : (0 : Int) ≤ (s.size : Int) - 4 := by omega
  have q4 : ((s.size : Int) - 4).toNat = s.size - 4 := by omega
  have q5 : (s.size : Int) - 4 ≤ (s.size : Int) := by omega
  by_cases he : s.extract (s.size - 4) s.size = four (crcN (s.extract 0 (s.size - 4)))
  · have HE := Lib.hid (un_ok s h1 h2 he)
    have hle := list_eq he
    clear he
    generalize four (crcN (s.extract 0 (s.size - 4))) = f at HK hle
    go_enter Try.func23, Try.ntmps23
    go_wp2
    go_region_with (go_at_call 33; refine (HK.out _).mono ?_; rintro e w1 ⟨rfl, hb1⟩)
    have hb0 : Below w.heap.size w w1 := (((Below.refl _ w).alloc (Nat.le_refl _) _).drew).trans (hb1.mono (by simp))
    go_wp2_with fail
    refine (HJ.out w1).mono ?_
    rintro e w2 ⟨rfl, hb2⟩
    have hbb := hb1.trans (hb2.mono hb1.size)
    have hb0' := hb0.trans (hb2.mono hb0.size)
    obtain ⟨hcx, hfx⟩ := bcell hbb
    clear hb1 hb0 hb2 hbb
    go_wp2
    go_light
    refine bodyPost_ret (v := out (s.extract 0 (s.size - 4)) 0 0) (by simp [results, Try.results23, go_sem, out, hcx]) rfl ⟨ret_val HE.out, ?_⟩
    exact ((hb0'.setCell (Nat.le_refl _) _).setCell (Nat.le_refl _) _).setCell (Nat.le_refl _) _
  · have HE := Lib.hid (un_bad s h1 h2 he)
    have hle := list_ne he
    clear he
    generalize four (crcN (s.extract 0 (s.size - 4))) = f at HK hle
    go_enter Try.func23, Try.ntmps23
    go_wp2
    go_region_with (go_at_call 33; refine (HK.out _).mono ?_; rintro e w1 ⟨rfl, hb1⟩)
    have hb0 : Below w.heap.size w w1 := (((Below.refl _ w).alloc (Nat.le_refl _) _).drew).trans (hb1.mono (by simp))
    obtain ⟨hcx, hfx⟩ := bcell hb1
    go_wp2
    go_light
    refine bodyPost_ret (v := out ⟨#[]⟩ 0 5) (by simp [results, Try.results23, go_sem, out, hcx]) rfl ⟨ret_val HE.out, ?_⟩
    exact ((hb0.setCell (Nat.le_refl _) _).setCell (Nat.le_refl _) _).setCell (Nat.le_refl _) _

theorem un_form (s : ByteArray) : ∃ t c, unsealed s = out t 0 c := by
  unfold unsealed
  split
  · exact ⟨_, _, rfl⟩
  split
  · exact ⟨_, _, rfl⟩
  split <;> exact ⟨_, _, rfl⟩

set_option maxHeartbeats 1000000 in
theorem eqTextOut_same (t : ByteArray) (a c : Int) (w : World) :
    Calls Try.prog 24 #[out t a c, out t a c] w fun e w' => e = .returned (.bool true) ∧ Below w.heap.size w w' := by
  unfold out
  go_enter Try.func24, Try.ntmps24
  go_wp2
  all_goals go_ret
  all_goals exact ⟨rfl, ((Below.refl _ _).alloc (Nat.le_refl _) _).alloc (by simp) _⟩

set_option maxHeartbeats 1000000 in
theorem law_Unseal (a0 : ByteArray) (w0 : a0.size ≤ maxLen) (w : World) :
    Calls Try.prog 9 #[.string a0] w fun e w' => e = .returned (.bool true) ∧ Below w.heap.size w w' := by
  have h0 := w0
  unfold maxLen at h0
  by_cases hl : 1048576 < a0.size
  · go_enter Try.func9, Try.ntmps9
    go_wp2
    go_ret
    exact ⟨rfl, Below.refl _ _⟩
  obtain ⟨t, c, hf⟩ := un_form a0
  have hA := fun W => spec_Unseal a0 w0 W
  have hB := fun W => impl_Unseal a0 w0 W
  rw [hf] at hA hB
  unfold out at hA hB
  have HA := Lib.hid hA
  have HB := Lib.hid hB
  clear hA hB hf
  go_enter Try.func9, Try.ntmps9
  go_wp2_with fail
  refine (HA.out _).mono ?_
  rintro e w1 ⟨rfl, hb1⟩
  go_wp2_with fail
  refine (HB.out _).mono ?_
  rintro e w2 ⟨rfl, hb2⟩
  obtain ⟨hcx, hfx⟩ := bcell hb2
  have hz : w1.heap.size < w2.heap.size := by have := hb2.size; simp at this; omega
  have hb0 : Below w.heap.size w w2 := (hb1.alloc hb1.size _).trans (hb2.mono (by have := hb1.size; simp; omega))
  clear hb2 hfx
  have HB1 := Lib.hid hb1
  clear hb1
  go_wp2_with fail
  refine (eqTextOut_same t 0 c _).mono ?_
  rintro e w3 ⟨rfl, hb3⟩
  have hb : Below w.heap.size w w3 := (hb0.alloc hb0.size _).trans (hb3.mono (by have := hb0.size; simp; omega))
  clear hb3 hb0 hcx
  go_wp2
  go_ret
  exact ⟨rfl, hb⟩
end Go.Proofs.Ytbjgkhligeblbaa.Se
