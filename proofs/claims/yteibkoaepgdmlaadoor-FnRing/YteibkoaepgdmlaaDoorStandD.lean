/- Contracts of impl.downRight and of the closure of impl.StandIns. Condition: no more integers than a slice may have. -/
import Derived.Test.YteibkoaepgdmlaaDoorOwners
import Derived.Test.YteibkoaepgdmlaaDoorStandMath
set_option linter.unusedSimpArgs false
set_option linter.unusedVariables false
namespace Go.Proofs.YteibkoaepgdmlaaDoor.Rg
open Go.RowKit Go.Proofs.YteibkoaepgdmlaaDoor.Mk Go.Proofs.YteibkoaepgdmlaaDoor.Rw Go.Proofs.YteibkoaepgdmlaaDoor.Tk Go.Proofs.YteibkoaepgdmlaaDoor.Iz Go.Proofs.YteibkoaepgdmlaaDoor.Fv

/-- the one ahead of place k -/
def lastOf (d : List Int) (k : Nat) : Int := if k = 0 then 0 else d.getD (k - 1) 0
theorem fits_last (d : List Int) (k : Nat) (x : Int) (hx : d.getD k 0 = x) (h : isB x 1 5 = true) : fitsD d k = decide (lastOf d k < x) := by
  unfold fitsD lastOf
  rw [hx, h]
  have := (isB_iff _ _ _).1 h
  by_cases c : k = 0
  · rw [if_pos c, decide_eq_true c, decide_eq_true (show (0 : Int) < x by omega)]; rfl
  · rw [if_neg c, decide_eq_false c]; simp
set_option maxRecDepth 100000 in
set_option maxHeartbeats 2000000 in
theorem impl_down (a : Option Addr) (cap : Nat) (d : List Int) (w : World) (hl : d.length ≤ maxLen) (h : RowAt 1 zenc w a d) :
    Calls Tryd.prog 49 #[.slice a d.length cap] w fun e w' => e = .returned (.bool (downB d)) ∧ w = w' := by
  have H := Lib.hid h
  clear h
  unfold maxLen at hl
  go_enter Tryd.func49, Tryd.ntmps49
  go_wp2
  go_loop [3, 8] (fun z i => ∃ (k : Nat), k ≤ d.length ∧ i = .int .i64 k ∧ z = .int .i64 (lastOf d k) ∧ (List.range k).all (fitsD d) = true) (fun _ i => d.length - (intOf i).toNat)
  case atStart => exact ⟨0, Nat.zero_le _, rfl, rfl, rfl⟩
  case round =>
    obtain ⟨k, hk, rfl, rfl, hall⟩ := hrel
    have HA := Lib.hid hall
    clear hall
    by_cases hlt : k < d.length
    rotate_left
    · have HY := Lib.hid (downB_yes d k hk hlt HA.out)
      generalize lastOf d k = z
      go_wp2
      go_ret
      exact ⟨ret_bool HY.out.symm, rfl⟩
    obtain ⟨g, off, rfl, hg, c⟩ := zcell H.out hlt
    have i1 : (k : Int) < (d.length : Int) := by omega
    have hgd := getD_get d k hlt
    have HL := Lib.hid (show lastOf d (k + 1) = d[k] by unfold lastOf; rw [if_neg (by omega)]; simpa using hgd)
    generalize d[k] = x at c hgd HL
    have HNR := Lib.hid (nodeRight x)
    have HX := Lib.hid hgd
    clear hgd
    cases hx : isB x 1 5
    · have HF := Lib.hid (downB_no d k hlt (by unfold fitsD; rw [HX.out, hx]; rfl))
      generalize lastOf d k = z
      go_wp2_with fail
      refine (HNR.out _).mono ?_
      rw [hx]
      rintro e w' ⟨rfl, rfl⟩
      go_wp2
      go_ret
      exact ⟨ret_bool HF.out.symm, rfl⟩
    have HFL := Lib.hid (fits_last d k x HX.out hx)
    by_cases hyx : lastOf d k < x
    · have HF := Lib.hid (downB_more d k HA.out (by rw [HFL.out]; exact decide_eq_true hyx))
      have hyd : ¬ x ≤ lastOf d k := by omega
      generalize lastOf d k = z at hyx hyd
      go_wp2_with fail
      refine (HNR.out _).mono ?_
      rw [hx]
      rintro e w' ⟨rfl, rfl⟩
      go_wp2
      go_round
      case rel => exact ⟨k + 1, by omega, by go_num, by rw [HL.out], HF.out⟩
      case measure => go_light; simp [intOf]; omega
    · have HF := Lib.hid (downB_no d k hlt (by rw [HFL.out]; exact decide_eq_false hyx))
      have hyd : x ≤ lastOf d k := by omega
      generalize lastOf d k = z at hyx hyd
      go_wp2_with fail
      refine (HNR.out _).mono ?_
      rw [hx]
      rintro e w' ⟨rfl, rfl⟩
      go_wp2
      go_ret
      exact ⟨ret_bool HF.out.symm, rfl⟩
/-- the closure: whether a node is down -/
theorem isDown (b : Nat) (a : Option Addr) (cap : Nat) (d : List Int) (x : Int) (w : World) (hl : d.length ≤ maxLen) (hc : w.cell? ⟨b, 0, none⟩ = some (.slice a d.length cap)) (h : RowAt 1 zenc w a d) :
    Calls Tryd.prog 50 #[.int .i64 x, .pointer (some ⟨b, 0, none⟩)] w fun e w' => e = .returned (.bool (decide (x ∈ d))) ∧ w = w' := by
  have HC := Lib.hid (slices_contains a cap d x w hl h)
  generalize decide (x ∈ d) = t at HC ⊢
  clear hl h
  go_enter Tryd.func50, Tryd.ntmps50
  go_wp2_with (go_at_call 47; refine HC.out.mono ?_; rintro e w' ⟨rfl, rfl⟩)
  go_ret
  exact ⟨rfl, rfl⟩
end Go.Proofs.YteibkoaepgdmlaaDoor.Rg
