/- Parts of a law: UnsealLaw. Conditions: on sizes, as each says. -/
import Derived.Test.YtiaoifodaoifjaaDoorZ1
import Derived.Test.YtiaoifodaoifjaaDoorZ6
set_option linter.unusedSimpArgs false
set_option linter.unusedVariables false
namespace Go.Proofs.YtiaoifodaoifjaaDoor.Se
open Go.RowKit Nu Cr
set_option maxRecDepth 100000 in
set_option maxHeartbeats 1000000 in
theorem spec_Unseal (s : ByteArray) (hs : s.size ≤ maxLen) (w : World) :
    Calls Tryd.prog 30 #[.string s] w fun e w' => e = .returned (unsealed s) ∧ Below w.heap.size w w' := by
  have hs' := hs
  unfold maxLen at hs
  by_cases h1 : 8000 < s.size
  · go_enter Tryd.func30, Tryd.ntmps30
    go_wp2
    exact bodyPost_ret (v := out ⟨#[]⟩ 0 2) (by simp [results, Tryd.results30, go_sem, out]) rfl ⟨ret_val (un_long s h1), (Below.refl _ _).alloc (Nat.le_refl _) _⟩
  by_cases h2 : s.size < 4
  · go_enter Tryd.func30, Tryd.ntmps30
    go_wp2
    exact bodyPost_ret (v := out ⟨#[]⟩ 0 4) (by simp [results, Tryd.results30, go_sem, out]) rfl ⟨ret_val (un_short s h1 h2), (Below.refl _ _).alloc (Nat.le_refl _) _⟩
  have hxs : (s.extract 0 (s.size - 4)).size = s.size - 4 := by simp
  have hK := fun W => spec_l01Crc 0 (by omega) (s.extract 0 (s.size - 4)) (by rw [hxs]; unfold maxLen; omega) W
  rw [← crcN_short _ (by rw [hxs]; omega)] at hK
  have HK := jj hK
  have hcl := crcN_lt (s.extract 0 (s.size - 4))
  clear hK hxs
  by_cases he : s.extract (s.size - 4) s.size = four (crcN (s.extract 0 (s.size - 4)))
  · have HE := jj (un_ok s h1 h2 he)
    have hle := list_eq he.symm
    clear he
    generalize crcN (s.extract 0 (s.size - 4)) = c at HK hcl hle
    have q1 : IntKind.i64.wrap ((s.size : Int) - 4) = (s.size : Int) - 4 := IntWalk.i64_in _ (by omega)
    have q2 : (4 : Int) ≤ (s.size : Int) := by omega
    have q3 : (0 : Int) ≤ (s.size : Int) - 4 := by omega
    have q4 : ((s.size : Int) - 4).toNat = s.size - 4 := by omega
    have q5 : (s.size : Int) - 4 ≤ (s.size : Int) := by omega
    go_enter Tryd.func30, Tryd.ntmps30
    go_wp2
    go_region_with (first
      | (go_at_call 52; refine (HK.out _).mono ?_; rintro e w1 ⟨rfl, rfl⟩)
      | (go_at_call 51; refine (spec_four c hcl _).mono ?_; rintro e w1 ⟨rfl, hb1⟩))
    obtain ⟨hcx, hfx⟩ := bcell hb1
    have hb0 : Below w.heap.size w w1 := (((Below.refl _ w).alloc (Nat.le_refl _) _).drew).trans (hb1.mono (by simp))
    go_wp2
    go_light
    refine bodyPost_ret (v := out (s.extract 0 (s.size - 4)) 0 0) (by simp [results, Tryd.results30, go_sem, out, hcx]) rfl ⟨ret_val HE.out, ?_⟩
    exact ((hb0.setCell (Nat.le_refl _) _).setCell (Nat.le_refl _) _).setCell (Nat.le_refl _) _
  · have HE := jj (un_bad s h1 h2 he)
    have hle := list_ne (fun h => he h.symm)
    clear he
    generalize crcN (s.extract 0 (s.size - 4)) = c at HK hcl hle
    have q1 : IntKind.i64.wrap ((s.size : Int) - 4) = (s.size : Int) - 4 := IntWalk.i64_in _ (by omega)
    have q2 : (4 : Int) ≤ (s.size : Int) := by omega
    have q3 : (0 : Int) ≤ (s.size : Int) - 4 := by omega
    have q4 : ((s.size : Int) - 4).toNat = s.size - 4 := by omega
    have q5 : (s.size : Int) - 4 ≤ (s.size : Int) := by omega
    go_enter Tryd.func30, Tryd.ntmps30
    go_wp2
    go_region_with (first
      | (go_at_call 52; refine (HK.out _).mono ?_; rintro e w1 ⟨rfl, rfl⟩)
      | (go_at_call 51; refine (spec_four c hcl _).mono ?_; rintro e w1 ⟨rfl, hb1⟩))
    obtain ⟨hcx, hfx⟩ := bcell hb1
    have hb0 : Below w.heap.size w w1 := (((Below.refl _ w).alloc (Nat.le_refl _) _).drew).trans (hb1.mono (by simp))
    go_wp2
    go_light
    refine bodyPost_ret (v := out ⟨#[]⟩ 0 5) (by simp [results, Tryd.results30, go_sem, out, hcx]) rfl ⟨ret_val HE.out, ?_⟩
    exact ((hb0.setCell (Nat.le_refl _) _).setCell (Nat.le_refl _) _).setCell (Nat.le_refl _) _
end Go.Proofs.YtiaoifodaoifjaaDoor.Se
