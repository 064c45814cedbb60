/- Parts of a law: Unseal. Conditions: on sizes, as each says. -/
import Derived.Test.YtiaoifodaoifjaaDoorZ1
import Derived.Deep.RegionWith
import Derived.WalkSpells
import Derived.IntWalk
import Derived.Test.YtiaoifodaoifjaaDoorZ3
set_option linter.unusedSimpArgs false
set_option linter.unusedVariables false
namespace Go.Proofs.YtiaoifodaoifjaaDoor.Se
open Go.RowKit Nu Cr
def out (t : ByteArray) (at_ code : Int) : Value := .agg #[.string t, .int .i64 at_, .int .i64 code]
def unsealed (s : ByteArray) : Value :=
  if 8000 < s.size then out ⟨#[]⟩ 0 2 else if s.size < 4 then out ⟨#[]⟩ 0 4
  else if s.extract (s.size - 4) s.size = four (crcN (s.extract 0 (s.size - 4))) then out (s.extract 0 (s.size - 4)) 0 0 else out ⟨#[]⟩ 0 5
theorem un_long (s : ByteArray) (h : 8000 < s.size) : out ⟨#[]⟩ 0 2 = unsealed s := (if_pos h).symm
theorem un_short (s : ByteArray) (h1 : ¬ 8000 < s.size) (h : s.size < 4) : out ⟨#[]⟩ 0 4 = unsealed s := by unfold unsealed; rw [if_neg h1, if_pos h]
theorem un_ok (s : ByteArray) (h1 : ¬ 8000 < s.size) (h2 : ¬ s.size < 4) (h : s.extract (s.size - 4) s.size = four (crcN (s.extract 0 (s.size - 4)))) : out (s.extract 0 (s.size - 4)) 0 0 = unsealed s := by
  unfold unsealed; rw [if_neg h1, if_neg h2, if_pos h]
theorem un_bad (s : ByteArray) (h1 : ¬ 8000 < s.size) (h2 : ¬ s.size < 4) (h : ¬ s.extract (s.size - 4) s.size = four (crcN (s.extract 0 (s.size - 4)))) : out ⟨#[]⟩ 0 5 = unsealed s := by
  unfold unsealed; rw [if_neg h1, if_neg h2, if_neg h]
theorem ret_val {a b : Value} (h : a = b) : Ending.returned a = .returned b := by rw [h]
theorem list_eq {a b : ByteArray} (h : a = b) : (a.toList == b.toList) = true := by rw [h]; exact beq_self_eq_true _
theorem list_ne {a b : ByteArray} (h : ¬ a = b) : (a.toList == b.toList) = false := by
  rw [ByteArray.toList_eq, ByteArray.toList_eq]
  apply beq_false_of_ne
  intro e
  apply h
  apply ByteArray.ext
  exact Array.toList_inj.1 e
theorem bcell {W w1 : World} (hb : Below W.heap.size W w1) : (∀ b o, b < W.heap.size → w1.cell? ⟨b, o, none⟩ = W.cell? ⟨b, o, none⟩) ∧ (∀ b o, b < W.heap.size → w1.frozen? ⟨b, o, none⟩ = W.frozen? ⟨b, o, none⟩) :=
  ⟨fun _ _ h => hb.cell h, fun _ _ h => hb.frozen h⟩
set_option maxRecDepth 100000 in
set_option maxHeartbeats 1000000 in
theorem impl_Unseal (s : ByteArray) (hs : s.size ≤ maxLen) (w : World) :
    Calls Tryd.prog 31 #[.string s] w fun e w' => e = .returned (unsealed s) ∧ Below w.heap.size w w' := by
  have hs' := hs
  unfold maxLen at hs
  by_cases h1 : 8000 < s.size
  · go_enter Tryd.func31, Tryd.ntmps31
    go_wp2
    exact bodyPost_ret (v := out ⟨#[]⟩ 0 2) (by simp [results, Tryd.results31, go_sem, out]) rfl ⟨ret_val (un_long s h1), (Below.refl _ _).alloc (Nat.le_refl _) _⟩
  by_cases h2 : s.size < 4
  · go_enter Tryd.func31, Tryd.ntmps31
    go_wp2
    exact bodyPost_ret (v := out ⟨#[]⟩ 0 4) (by simp [results, Tryd.results31, go_sem, out]) rfl ⟨ret_val (un_short s h1 h2), (Below.refl _ _).alloc (Nat.le_refl _) _⟩
  have hxs : (s.extract 0 (s.size - 4)).size = s.size - 4 := by simp
  have hK := fun W => impl_sumOf (s.extract 0 (s.size - 4)) (by rw [hxs]; unfold maxLen; omega) W
  have hJ := fun W => joined_one (s.extract 0 (s.size - 4)) W (by rw [hxs]; omega)
  have HK := jj hK
  have HJ := jj hJ
  clear hK hxs hJ
  have q1 : IntKind.i64.wrap ((s.size : Int) - 4) = (s.size : Int) - 4 := IntWalk.i64_in _ (by omega)
  have q2 : (4 : Int) ≤ (s.size : Int) := by omega
  have q3 : (0 : Int) ≤ (s.size : Int) - 4 := by omega
  have q4 : ((s.size : Int) - 4).toNat = s.size - 4 := by omega
  have q5 : (s.size : Int) - 4 ≤ (s.size : Int) := by omega
  by_cases he : s.extract (s.size - 4) s.size = four (crcN (s.extract 0 (s.size - 4)))
  · have HE := jj (un_ok s h1 h2 he)
    have hle := list_eq he
    clear he
    generalize four (crcN (s.extract 0 (s.size - 4))) = f at HK hle
    go_enter Tryd.func31, Tryd.ntmps31
    go_wp2
    go_region_with (go_at_call 48; refine (HK.out _).mono ?_; rintro e w1 ⟨rfl, hb1⟩)
    have hb0 : Below w.heap.size w w1 := (((Below.refl _ w).alloc (Nat.le_refl _) _).drew).trans (hb1.mono (by simp))
    go_wp2_with fail
    refine (HJ.out w1).mono ?_
    rintro e w2 ⟨rfl, hb2⟩
    have hbb := hb1.trans (hb2.mono hb1.size)
    have hb0' := hb0.trans (hb2.mono hb0.size)
    obtain ⟨hcx, hfx⟩ := bcell hbb
    clear hb1 hb0 hb2 hbb
    go_wp2
    go_light
    refine bodyPost_ret (v := out (s.extract 0 (s.size - 4)) 0 0) (by simp [results, Tryd.results31, go_sem, out, hcx]) rfl ⟨ret_val HE.out, ?_⟩
    exact ((hb0'.setCell (Nat.le_refl _) _).setCell (Nat.le_refl _) _).setCell (Nat.le_refl _) _
  · have HE := jj (un_bad s h1 h2 he)
    have hle := list_ne he
    clear he
    generalize four (crcN (s.extract 0 (s.size - 4))) = f at HK hle
    go_enter Tryd.func31, Tryd.ntmps31
    go_wp2
    go_region_with (go_at_call 48; refine (HK.out _).mono ?_; rintro e w1 ⟨rfl, hb1⟩)
    have hb0 : Below w.heap.size w w1 := (((Below.refl _ w).alloc (Nat.le_refl _) _).drew).trans (hb1.mono (by simp))
    obtain ⟨hcx, hfx⟩ := bcell hb1
    go_wp2
    go_light
    refine bodyPost_ret (v := out ⟨#[]⟩ 0 5) (by simp [results, Tryd.results31, go_sem, out, hcx]) rfl ⟨ret_val HE.out, ?_⟩
    exact ((hb0.setCell (Nat.le_refl _) _).setCell (Nat.le_refl _) _).setCell (Nat.le_refl _) _
end Go.Proofs.YtiaoifodaoifjaaDoor.Se
