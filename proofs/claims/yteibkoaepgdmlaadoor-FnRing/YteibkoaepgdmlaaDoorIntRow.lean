/- Rows of integers in memory, and contracts of the laws' helpers on them: toInt64S, eqInt64S, markInt64S, heldInt64S. Condition: at most 1048576 integers. -/
import Derived.Test.YteibkoaepgdmlaaDoorFrame2
import Derived.Deep.RegionHeld3
import Derived.StillTailTactics
set_option linter.unusedSimpArgs false
set_option linter.unusedVariables false
namespace Go.Proofs.YteibkoaepgdmlaaDoor.Iz
open Go.RowKit Go.Proofs.YteibkoaepgdmlaaDoor.Mk Go.Proofs.YteibkoaepgdmlaaDoor.Rw

def zenc (x : Int) : Nat → Value := fun _ => .int .i64 x
theorem flat1 (l : List Int) : flatE 1 zenc l = l.map (.int .i64) := by
  induction l with
  | nil => rfl
  | cons x r ih =>
    show zenc x 0 :: flatE 1 zenc r = _
    rw [ih]; rfl
theorem zcell {w : World} {a : Option Addr} {l : List Int} (h : RowAt 1 zenc w a l) {i : Nat} (hi : i < l.length) : ∃ g off, a = some ⟨g, off, none⟩ ∧ g < w.heap.size ∧ w.cell? ⟨g, off + i, none⟩ = some (.int .i64 l[i]) := by
  obtain ⟨g, off, ha, hg, hc⟩ := RowAt.cells (by decide) h hi
  have := hc 0 (by decide)
  rw [Nat.mul_one, Nat.add_zero] at this
  exact ⟨g, off, ha, hg, this⟩
theorem zown {w : World} {g : Nat} {l : List Int} (h : ROwn 1 zenc w g l) {i : Nat} (hi : i < l.length) : w.cell? ⟨g, i, none⟩ = some (.int .i64 l[i]) := by
  have := h.cell i hi 0 (by decide)
  rwa [Nat.mul_one, Nat.add_zero] at this
theorem zown_set {w : World} {g : Nat} {l : List Int} (h : ROwn 1 zenc w g l) (i : Nat) (hi : i < l.length) (x : Int) : ROwn 1 zenc (w.setCell ⟨g, i, none⟩ (.int .i64 x)) g (l.set i x) :=
  h.put i x (fun j hj => by
      obtain rfl : j = 0 := by omega
      rw [Nat.mul_one, Nat.add_zero]
      exact World.cell?_setCell_same _ _ _ (zown h hi))
    (fun o ho => World.cell?_setCell_other _ _ _ _ (ne_off (by omega))) (fun j => World.frozen?_setCell _ _ _ _)
theorem infoZ : (Tryd.prog.info? 2).map (fun i => (i.zero, i.size, i.bytes)) = some (some (.int .i64 0), 1, 8) := by kernel_rfl
theorem zown_new (w : World) (n : Nat) : ROwn 1 zenc (w.alloc (.cells (madeCells #[.int .i64 0] n) 2)) w.heap.size (List.replicate n 0) := by
  have := ROwn.new (k := 1) (enc := zenc) (z := (0 : Int)) (zs := #[.int .i64 0]) rfl (fun j hj => by
    obtain rfl : j = 0 := by omega
    rfl) w n 2
  rwa [Nat.mul_one] at this
/-- what a call that makes a row of integers leaves -/
def ZGives (w : World) (l : List Int) (e : Ending) (w' : World) : Prop :=
  ∃ a cap, e = .returned (.slice a l.length cap) ∧ ROwnIn 1 zenc w' w.heap.size w'.heap.size a l ∧ Below w.heap.size w w'
theorem run_make_ints (k n : Nat) (hk : k ≤ n) (hn : n ≤ 1048576) (w : World) :
    (Instr.makeSlice 30 (.int .i64 (k : Int)) (.int .i64 (n : Int))).run Tryd.prog w = .ok (.slice (some ⟨w.heap.size, 0, none⟩) k n) (w.alloc (.cells (madeCells #[.int .i64 0] n) 2)) := by
  obtain ⟨i0, hi, hz0, hz1, hz2⟩ := info_parts infoZ
  have := run_make (P := Tryd.prog) w 30 2 i0 _ Tryd.underlying30 hi hz0 .i64 .i64 k n (by omega) (by omega) (by rw [hz2]; omega) (by omega)
  rw [hz1] at this
  simpa [Value.cells] using this
set_option maxRecDepth 100000 in
set_option maxHeartbeats 1000000 in
theorem toInt64S (a : Option Addr) (cap : Nat) (l : List Int) (w : World) (hl : l.length ≤ 1048576) (h : RowAt 1 zenc w a l) :
    Calls Tryd.prog 39 #[.slice a l.length cap] w (ZGives w l) := by
  have H := Lib.hid h
  clear h
  have hmk := run_make_ints l.length l.length (Nat.le_refl _) hl
  go_enter Tryd.func39, Tryd.ntmps39
  go_wp2
  clear hmk
  go_loopw [4] (fun i wr => ∃ (k : Nat) (l' : List Int), k ≤ l.length ∧ i = .int .i64 k ∧ l'.length = l.length ∧ l'.take k = l.take k ∧ ROwn 1 zenc wr w.heap.size l' ∧ Below w.heap.size w wr) (fun i _ => l.length - (intOf i).toNat)
  case atStart => exact ⟨0, List.replicate l.length 0, Nat.zero_le _, rfl, by simp, by simp, zown_new w _, (Below.refl _ _).alloc (Nat.le_refl _) _⟩
  case round =>
    obtain ⟨k, l', hk, rfl, hl', ht, ho, hbel⟩ := hrel
    have HL := Lib.hid hl'
    have HT := Lib.hid ht
    have HO := Lib.hid ho
    have HB := Lib.hid hbel
    clear hl' ht ho hbel
    by_cases hlt : k < l.length
    · obtain ⟨g, off, rfl, hg, c0⟩ := zcell (RowAt.mono (by decide) H.out HB.out) hlt
      have HS := Lib.hid (show l.take (k + 1) = l.take k ++ [l[k]] from List.take_succ_eq_append_getElem hlt)
      generalize l[k] = m at c0 HS
      have HK := Lib.hid (show k < l'.length by rw [HL.out]; exact hlt)
      have c2 := zown HO.out HK.out
      have f2 := HO.out.free k
      generalize l'[k]'HK.out = old at c2
      go_wp2
      go_roundw
      case rel =>
        refine ⟨k + 1, l'.set k m, by omega, by go_num, by rw [List.length_set]; exact HL.out, ?_, zown_set HO.out k HK.out m, HB.out.setCell (Nat.le_refl _) _⟩
        rw [List.take_succ_eq_append_getElem (by rw [List.length_set]; exact HK.out), List.take_set, List.set_eq_of_length_le (by rw [List.length_take]; omega), HT.out, HS.out, List.getElem_set_self]
      case measure => go_light; simp [intOf]; omega
    · have he : l' = l := by
        have h1 := HT.out
        rwa [List.take_of_length_le (by rw [HL.out]; omega), List.take_of_length_le (by omega)] at h1
      have HE := Lib.hid he
      clear he
      go_wp2
      go_ret
      refine ⟨_, _, rfl, ?_, HB.out⟩
      by_cases h0 : l = []
      · exact .inl h0
      · have ho := HO.out
        rw [HE.out] at ho
        exact .inr ⟨_, rfl, Nat.le_refl _, ho.lt (by decide) (List.length_pos_iff.2 h0), ho⟩
set_option maxRecDepth 100000 in
set_option maxHeartbeats 1000000 in
theorem eqInt64S (a b : Option Addr) (cap cap' : Nat) (l : List Int) (w : World) (hl : l.length ≤ maxLen) (h : RowAt 1 zenc w a l) (h' : RowAt 1 zenc w b l) :
    Calls Tryd.prog 35 #[.slice a l.length cap, .slice b l.length cap'] w fun e w' => e = .returned (.bool true) ∧ Below w.heap.size w w' := by
  have H := Lib.hid h
  have H' := Lib.hid h'
  clear h h'
  unfold maxLen at hl
  go_enter Tryd.func35, Tryd.ntmps35
  go_wp2
  go_loopw [5] (fun i wr => ∃ (k : Nat), k ≤ l.length ∧ i = .int .i64 k ∧ Below w.heap.size w wr) (fun i _ => l.length - (intOf i).toNat)
  case atStart => exact ⟨0, Nat.zero_le _, rfl, Below.refl _ _⟩
  case round =>
    obtain ⟨k, hk, rfl, hbel⟩ := hrel
    have HB := Lib.hid hbel
    clear hbel
    by_cases hlt : k < l.length
    · obtain ⟨g, off, rfl, hg, c⟩ := zcell (RowAt.mono (by decide) H.out HB.out) hlt
      obtain ⟨g', off', rfl, hg', c'⟩ := zcell (RowAt.mono (by decide) H'.out HB.out) hlt
      generalize l[k] = d at c c'
      have i0 : (0 : Int) ≤ (k : Int) := by omega
      have i1 : (k : Int) < (l.length : Int) := by omega
      go_wp2_with fail
      go_region_held3 (fun w' => w'.cell? ⟨g, off + k, none⟩ = some (.int .i64 d) ∧ w'.cell? ⟨g', off' + k, none⟩ = some (.int .i64 d)) (first | exact ⟨c, c'⟩ | assumption | go_keep) (fail)
      go_wp2
      go_roundw
      case rel => exact ⟨k + 1, by omega, by go_num, HB.out.drew⟩
      case measure => go_light; simp [intOf]; omega
    · go_wp2
      go_ret
      exact ⟨rfl, HB.out⟩
/-- n integers from k on -/
def zL (k : Int) (n : Nat) : List Int := (List.range n).map fun (i : Nat) => k + (i : Int)
theorem zL_length (k : Int) (n : Nat) : (zL k n).length = n := by simp [zL]
theorem zL_get (k : Int) (n i : Nat) (h : i < (zL k n).length) : (zL k n)[i] = k + (i : Int) := by simp [zL]
/-- what markInt64S leaves -/
def MarkedZ (w : World) (lo hi : Nat) (a : Option Addr) (k : Int) (n : Nat) (e : Ending) (w' : World) : Prop :=
  e = .returned (.int .i64 (k + (n : Int))) ∧ ROwnIn 1 zenc w' lo hi a (zL k n) ∧ Within lo hi w w'
set_option maxRecDepth 100000 in
set_option maxHeartbeats 1000000 in
theorem markInt64S (lo hi : Nat) (a : Option Addr) (cap : Nat) (l : List Int) (k : Int) (w : World) (hl : l.length ≤ 1048576) (hk0 : 0 ≤ k) (hk1 : k ≤ 1000000000) (h : ROwnIn 1 zenc w lo hi a l) :
    Calls Tryd.prog 37 #[.slice a l.length cap, .int .i64 k] w (MarkedZ w lo hi a k l.length) := by
  by_cases hn : l = []
  · subst hn
    go_enter Tryd.func37, Tryd.ntmps37
    go_wp2
    go_loop [1, 5] (fun z i => z = .int .i64 k ∧ i = .int .i64 0) (fun _ _ => 0)
    case atStart => exact ⟨rfl, rfl⟩
    case round =>
      obtain ⟨rfl, rfl⟩ := hrel
      go_wp2
      go_ret
      exact ⟨ret_i64 (by simp), .inl rfl, Within.refl _ _ _⟩
  obtain ⟨g, rfl, h1, h2, ho⟩ : ∃ g, a = some ⟨g, 0, none⟩ ∧ lo ≤ g ∧ g < hi ∧ ROwn 1 zenc w g l := by
    rcases h with h | h
    · exact absurd h hn
    · exact h
  have HO := Lib.hid ho
  have HN := Lib.hid hn
  clear ho hn h
  go_enter Tryd.func37, Tryd.ntmps37
  go_wp2
  go_loopw [1, 5] (fun z i wr => ∃ (j : Nat) (l' : List Int), j ≤ l.length ∧ i = .int .i64 j ∧ z = .int .i64 (k + (j : Int)) ∧ l'.length = l.length ∧ l'.take j = (zL k l.length).take j ∧ ROwn 1 zenc wr g l' ∧ Within lo hi w wr) (fun _ i _ => l.length - (intOf i).toNat)
  case atStart => exact ⟨0, l, Nat.zero_le _, rfl, by simp, rfl, by simp, HO.out, Within.refl _ _ _⟩
  case round =>
    obtain ⟨j, l', hj, rfl, rfl, hl', ht, ho, hbel⟩ := hrel
    have HL := Lib.hid hl'
    have HT := Lib.hid ht
    have HO := Lib.hid ho
    have HB := Lib.hid hbel
    clear hl' ht ho hbel
    by_cases hlt : j < l.length
    · have HK := Lib.hid (show j < l'.length by rw [HL.out]; exact hlt)
      have c2 := zown HO.out HK.out
      have f2 := HO.out.free j
      go_wp2
      go_roundw
      case rel =>
        refine ⟨j + 1, l'.set j (k + (j : Int)), by omega, by go_num, by go_num, by rw [List.length_set]; exact HL.out, ?_, zown_set HO.out j HK.out _, HB.out.setCell h1 h2 _⟩
        rw [List.take_succ_eq_append_getElem (by rw [List.length_set]; exact HK.out), List.take_set, List.set_eq_of_length_le (by rw [List.length_take]; omega), HT.out, List.getElem_set_self, List.take_succ_eq_append_getElem (by rw [zL_length]; exact hlt), zL_get]
      case measure => go_light; simp [intOf]; omega
    · have he : l' = zL k l.length := by
        have h1 := HT.out
        rwa [List.take_of_length_le (by rw [HL.out]; omega), List.take_of_length_le (by rw [zL_length]; omega)] at h1
      have hj2 : j = l.length := by omega
      have HE := Lib.hid he
      have HJ := Lib.hid hj2
      clear he hj2
      go_wp2
      go_ret
      refine ⟨ret_i64 (by rw [HJ.out]), ?_, HB.out⟩
      have ho := HO.out
      rw [HE.out] at ho
      exact .inr ⟨_, rfl, h1, h2, ho⟩
set_option maxRecDepth 100000 in
set_option maxHeartbeats 1000000 in
theorem heldInt64S (a : Option Addr) (cap n : Nat) (k : Int) (w : World) (hl : n ≤ 1048576) (hk0 : 0 ≤ k) (hk1 : k ≤ 1000000000) (h : RowAt 1 zenc w a (zL k n)) :
    Calls Tryd.prog 38 #[.slice a n cap, .int .i64 k] w fun e w' => e = .returned (.int .i64 (k + (n : Int))) ∧ Below w.heap.size w w' := by
  have H := Lib.hid h
  clear h
  go_enter Tryd.func38, Tryd.ntmps38
  go_wp2
  go_loop [1, 5] (fun z i => ∃ (j : Nat), j ≤ n ∧ i = .int .i64 j ∧ z = .int .i64 (k + (j : Int))) (fun _ i => n - (intOf i).toNat)
  case atStart => exact ⟨0, Nat.zero_le _, rfl, by simp⟩
  case round =>
    obtain ⟨j, hj, rfl, rfl⟩ := hrel
    by_cases hlt : j < n
    · obtain ⟨g, off, rfl, hg, c0⟩ := zcell (i := j) H.out (by rw [zL_length]; exact hlt)
      rw [zL_get] at c0
      go_wp2
      go_round
      case rel => exact ⟨j + 1, by omega, by go_num, by go_num⟩
      case measure => go_light; simp [intOf]; omega
    · have hj2 : j = n := by omega
      have HJ := Lib.hid hj2
      clear hj2
      go_wp2
      go_ret
      exact ⟨ret_i64 (by rw [HJ.out]), Below.refl _ _⟩
end Go.Proofs.YteibkoaepgdmlaaDoor.Iz
