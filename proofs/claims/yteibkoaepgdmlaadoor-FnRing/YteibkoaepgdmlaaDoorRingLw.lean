/- Contracts of the law's own comparisons of rings and of slices of integers, where they are alike. Condition: no more elements than a slice may have. -/
import Derived.Test.YteibkoaepgdmlaaDoorIntRow
import Derived.Test.YteibkoaepgdmlaaDoorTok
import Derived.Test.YteibkoaepgdmlaaDoorFrame2
import Derived.Deep.RegionHeld3
import Derived.StillTailTactics
set_option linter.unusedSimpArgs false
set_option linter.unusedVariables false
namespace Go.Proofs.YteibkoaepgdmlaaDoor.Iz
open Go.RowKit Go.Proofs.YteibkoaepgdmlaaDoor.Mk Go.Proofs.YteibkoaepgdmlaaDoor.Rw

set_option maxRecDepth 100000 in
set_option maxHeartbeats 1000000 in
theorem lw_nums (a b : Option Addr) (cap cap' : Nat) (l : List Int) (w : World) (hl : l.length ≤ maxLen) (h : RowAt 1 zenc w a l) (h' : RowAt 1 zenc w b l) :
    Calls Tryd.prog 19 #[.slice a l.length cap, .slice b l.length cap'] w fun e w' => e = .returned (.bool true) ∧ Below w.heap.size w w' := by
  have H := Lib.hid h
  have H' := Lib.hid h'
  clear h h'
  unfold maxLen at hl
  go_enter Tryd.func19, Tryd.ntmps19
  go_wp2
  go_loopw [5] (fun i wr => ∃ (k : Nat), k ≤ l.length ∧ i = .int .i64 k ∧ Below w.heap.size w wr) (fun i _ => l.length - (intOf i).toNat)
  case atStart => exact ⟨0, Nat.zero_le _, rfl, Below.refl _ _⟩
  case round =>
    obtain ⟨k, hk, rfl, hbel⟩ := hrel
    have HB := Lib.hid hbel
    clear hbel
    by_cases hlt : k < l.length
    · obtain ⟨g, off, rfl, hg, c⟩ := zcell (RowAt.mono (by decide) H.out HB.out) hlt
      obtain ⟨g', off', rfl, hg', c'⟩ := zcell (RowAt.mono (by decide) H'.out HB.out) hlt
      generalize l[k] = d at c c'
      have i0 : (0 : Int) ≤ (k : Int) := by omega
      have i1 : (k : Int) < (l.length : Int) := by omega
      go_wp2_with fail
      go_region_held3 (fun w' => w'.cell? ⟨g, off + k, none⟩ = some (.int .i64 d) ∧ w'.cell? ⟨g', off' + k, none⟩ = some (.int .i64 d)) (first | exact ⟨c, c'⟩ | assumption | go_keep) (fail)
      go_wp2
      go_roundw
      case rel => exact ⟨k + 1, by omega, by go_num, HB.out.drew⟩
      case measure => go_light; simp [intOf]; omega
    · go_wp2
      go_ret
      exact ⟨rfl, HB.out⟩
set_option maxRecDepth 100000 in
set_option maxHeartbeats 1000000 in
theorem lw_ring (n c : Int) (a b : Option Addr) (cap cap' : Nat) (l : List (Int × Int)) (w : World) (hl : l.length ≤ maxLen) (h : MarksAt w a l) (h' : MarksAt w b l) :
    Calls Tryd.prog 16 #[.agg #[.int .i64 n, .slice a l.length cap, .int .i64 c], .agg #[.int .i64 n, .slice b l.length cap', .int .i64 c]] w fun e w' => e = .returned (.bool true) ∧ Below w.heap.size w w' := by
  have H := Lib.hid h
  have H' := Lib.hid h'
  clear h h'
  unfold maxLen at hl
  have s1 := step_alloc w (.cells #[.int .i64 n, .slice a l.length cap, .int .i64 c] 40)
  have r1 := Cells.new w #[.int .i64 n, .slice a l.length cap, .int .i64 c] 40
  have z1 : (w.alloc (.cells #[.int .i64 n, .slice a l.length cap, .int .i64 c] 40)).heap.size = w.heap.size + 1 := by simp
  have s2 := step_alloc (w.alloc (.cells #[.int .i64 n, .slice a l.length cap, .int .i64 c] 40)) (.cells #[.int .i64 n, .slice b l.length cap', .int .i64 c] 40)
  have r2 := Cells.new (w.alloc (.cells #[.int .i64 n, .slice a l.length cap, .int .i64 c] 40)) #[.int .i64 n, .slice b l.length cap', .int .i64 c] 40
  rw [z1] at r2
  have RA := Lib.hid (r1.below s2)
  have RB := Lib.hid r2
  have DW := Lib.hid (s1.trans (s2.mono s1.size))
  clear s1 s2 r1 r2 z1
  go_enter Tryd.func16, Tryd.ntmps16
  go_wp2
  generalize (w.alloc (.cells #[.int .i64 n, .slice a l.length cap, .int .i64 c] 40)).alloc (.cells #[.int .i64 n, .slice b l.length cap', .int .i64 c] 40) = wb at RA RB DW ⊢
  go_loopw [5] (fun i wr => ∃ (k : Nat), k ≤ l.length ∧ i = .int .i64 k ∧ Below wb.heap.size wb wr) (fun i _ => l.length - (intOf i).toNat)
  case atStart => exact ⟨0, Nat.zero_le _, rfl, Below.refl _ _⟩
  case round =>
    obtain ⟨k, hk, rfl, hbel⟩ := hrel
    have HB := Lib.hid hbel
    have A2 := RA.out.below hbel
    have B2 := RB.out.below hbel
    obtain ⟨p0, p1, p2, _⟩ := A2.c3
    obtain ⟨q0, q1, q2, _⟩ := B2.c3
    clear hbel A2 B2
    have HW := Lib.hid (DW.out.trans (HB.out.mono DW.out.size))
    by_cases hlt : k < l.length
    · obtain ⟨g, off, rfl, hg, c0, c1⟩ := (H.out.mono HW.out).cells hlt
      obtain ⟨g', off', rfl, hg', c0', c1'⟩ := (H'.out.mono HW.out).cells hlt
      generalize l[k] = m at c0 c1 c0' c1'
      obtain ⟨x, y⟩ := m
      dsimp only at c0 c1 c0' c1'
      have i0 : (0 : Int) ≤ (k : Int) := by omega
      have i1 : (k : Int) < (l.length : Int) := by omega
      go_wp2_with fail
      go_region_held3 (fun w' => w'.cell? ⟨w.heap.size, 1, none⟩ = some (.slice (some ⟨g, off, none⟩) l.length cap) ∧ w'.cell? ⟨w.heap.size + 1, 1, none⟩ = some (.slice (some ⟨g', off', none⟩) l.length cap') ∧ w'.cell? ⟨g, off + k * 2, none⟩ = some (.int .i64 x) ∧ w'.cell? ⟨g, off + k * 2 + 1, none⟩ = some (.int .i64 y) ∧ w'.cell? ⟨g', off' + k * 2, none⟩ = some (.int .i64 x) ∧ w'.cell? ⟨g', off' + k * 2 + 1, none⟩ = some (.int .i64 y)) (go_keep) (fail)
      go_wp2
      go_roundw
      case rel => exact ⟨k + 1, by omega, by go_num, HB.out.drew⟩
      case measure => go_light; simp [intOf]; omega
    · go_wp2
      go_ret
      exact ⟨rfl, HW.out⟩
end Go.Proofs.YteibkoaepgdmlaaDoor.Iz
