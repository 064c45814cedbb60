/- Rows of strings: what the laws compare, mark and hold; contracts of spec.Values and impl.Values. No condition but on sizes. -/
import Derived.Test.YtflhiopdfkggdaaSetMark
import Derived.Test.YtflhiopdfkggdaaSetRightI
import Derived.Test.YtflhiopdfkggdaaSetRightS
import Derived.Test.YtflhiopdfkggdaaSeenBytes
import Derived.Deep.RegionHeld3
set_option linter.unusedSimpArgs false
set_option linter.unusedVariables false
namespace Go.Proofs.Ytflhiopdfkggdaa.Sb
open Go.RowKit Go.Proofs.Ytflhiopdfkggdaa.Mk Go.Proofs.Ytflhiopdfkggdaa.Rw

def tenc (s : ByteArray) : Nat → Value := fun _ => .string s
theorem flat1 (l : List ByteArray) : flatE 1 tenc l = l.map .string := by
  induction l with
  | nil => rfl
  | cons x r ih =>
    show tenc x 0 :: flatE 1 tenc r = _
    rw [ih]; rfl
theorem tcell {w : World} {a : Option Addr} {l : List ByteArray} (h : RowAt 1 tenc w a l) {i : Nat} (hi : i < l.length) : ∃ g off, a = some ⟨g, off, none⟩ ∧ g < w.heap.size ∧ w.cell? ⟨g, off + i, none⟩ = some (.string l[i]) := by
  obtain ⟨g, off, ha, hg, hc⟩ := RowAt.cells (by decide) h hi
  have := hc 0 (by decide)
  rw [Nat.mul_one, Nat.add_zero] at this
  exact ⟨g, off, ha, hg, this⟩
theorem town {w : World} {g : Nat} {l : List ByteArray} (h : ROwn 1 tenc w g l) {i : Nat} (hi : i < l.length) : w.cell? ⟨g, i, none⟩ = some (.string l[i]) := by
  have := h.cell i hi 0 (by decide)
  rwa [Nat.mul_one, Nat.add_zero] at this
theorem town_set {w : World} {g : Nat} {l : List ByteArray} (h : ROwn 1 tenc w g l) (i : Nat) (hi : i < l.length) (x : ByteArray) : ROwn 1 tenc (w.setCell ⟨g, i, none⟩ (.string x)) g (l.set i x) :=
  h.put i x (fun j hj => by
      obtain rfl : j = 0 := by omega
      rw [Nat.mul_one, Nat.add_zero]
      exact World.cell?_setCell_same _ _ _ (town h hi))
    (fun o ho => World.cell?_setCell_other _ _ _ _ (ne_off (by omega))) (fun j => World.frozen?_setCell _ _ _ _)
set_option maxRecDepth 100000 in
set_option maxHeartbeats 1000000 in
theorem eqStringS (a b : Option Addr) (cap cap' : Nat) (l : List ByteArray) (w : World) (hl : l.length ≤ maxLen) (h : RowAt 1 tenc w a l) (h' : RowAt 1 tenc w b l) :
    Calls Try.prog 76 #[.slice a l.length cap, .slice b l.length cap'] w fun e w' => e = .returned (.bool true) ∧ Below w.heap.size w w' := by
  have H := Lib.hid h
  have H' := Lib.hid h'
  clear h h'
  unfold maxLen at hl
  go_enter Try.func76, Try.ntmps76
  go_wp2
  go_loopw [5] (fun i wr => ∃ (k : Nat), k ≤ l.length ∧ i = .int .i64 k ∧ Below w.heap.size w wr) (fun i _ => l.length - (intOf i).toNat)
  case atStart => exact ⟨0, Nat.zero_le _, rfl, Below.refl _ _⟩
  case round =>
    obtain ⟨k, hk, rfl, hbel⟩ := hrel
    have HB := Lib.hid hbel
    clear hbel
    by_cases hlt : k < l.length
    · obtain ⟨g, off, rfl, hg, c⟩ := tcell (RowAt.mono (by decide) H.out HB.out) hlt
      obtain ⟨g', off', rfl, hg', c'⟩ := tcell (RowAt.mono (by decide) H'.out HB.out) hlt
      generalize l[k] = d at c c'
      have i0 : (0 : Int) ≤ (k : Int) := by omega
      have i1 : (k : Int) < (l.length : Int) := by omega
      go_wp2_with fail
      refine wp_region_held_drew (S := fun w' => w'.cell? ⟨g, off + k, none⟩ = some (.string d) ∧ w'.cell? ⟨g', off' + k, none⟩ = some (.string d)) (by kernel_rfl) (by first | exact ⟨c, c'⟩ | assumption) (fun hHeld => ?_)
      refine wpAnyH_take (i := 0) (v := ?_) rfl (by kernel_rfl) (by kernel_rfl) (by kernel_rfl) (fun _ _ _ h => h) (Or.inl ⟨by rfl, fun w hSw => by (try dsimp only at hSw); go_simp; (try with_reducible rfl)⟩) (by assumption) ?_
      try simp only [Act.put, List.setIfInBounds_toArray, List.set_cons_zero, List.set_cons_succ, List.getElem_toArray, List.getElem_cons_zero, List.getElem_cons_succ]
      refine wpAnyH_take (i := 1) (v := ?_) rfl (by kernel_rfl) (by kernel_rfl) (by kernel_rfl) (fun _ _ _ h => h) (Or.inl ⟨by rfl, fun w hSw => by (try dsimp only at hSw); go_simp; (try with_reducible rfl)⟩) (by assumption) ?_
      try simp only [Act.put, List.setIfInBounds_toArray, List.set_cons_zero, List.set_cons_succ, List.getElem_toArray, List.getElem_cons_zero, List.getElem_cons_succ]
      refine wpAnyH_take (i := 2) (v := ?_) rfl (by kernel_rfl) (by kernel_rfl) (by kernel_rfl) (fun _ _ _ h => h) (Or.inl ⟨by rfl, fun w hSw => by (try dsimp only at hSw); go_simp; (try with_reducible rfl)⟩) (by assumption) ?_
      try simp only [Act.put, List.setIfInBounds_toArray, List.set_cons_zero, List.set_cons_succ, List.getElem_toArray, List.getElem_cons_zero, List.getElem_cons_succ]
      refine wpAnyH_take (i := 3) (v := ?_) rfl (by kernel_rfl) (by kernel_rfl) (by kernel_rfl) (fun _ _ _ h => h) (Or.inl ⟨by rfl, fun w hSw => by (try dsimp only at hSw); go_simp; (try with_reducible rfl)⟩) (by assumption) ?_
      try simp only [Act.put, List.setIfInBounds_toArray, List.set_cons_zero, List.set_cons_succ, List.getElem_toArray, List.getElem_cons_zero, List.getElem_cons_succ]
      refine wpAnyH_take (i := 4) (v := ?_) rfl (by kernel_rfl) (by kernel_rfl) (by kernel_rfl) (fun _ _ _ h => h) (Or.inl ⟨by rfl, fun w hSw => by (try dsimp only at hSw); go_simp; (try with_reducible rfl)⟩) (by assumption) ?_
      try simp only [Act.put, List.setIfInBounds_toArray, List.set_cons_zero, List.set_cons_succ, List.getElem_toArray, List.getElem_cons_zero, List.getElem_cons_succ]
      refine wpAnyH_take (i := 5) (v := ?_) rfl (by kernel_rfl) (by kernel_rfl) (by kernel_rfl) (fun _ _ _ h => h) (Or.inl ⟨by rfl, fun w hSw => by (try dsimp only at hSw); go_simp; (try with_reducible rfl)⟩) (by assumption) ?_
      try simp only [Act.put, List.setIfInBounds_toArray, List.set_cons_zero, List.set_cons_succ, List.getElem_toArray, List.getElem_cons_zero, List.getElem_cons_succ]
      refine wpAnyH_take (i := 6) (v := ?_) rfl (by kernel_rfl) (by kernel_rfl) (by kernel_rfl) (fun _ _ _ h => h) (Or.inl ⟨by rfl, fun w hSw => by (try dsimp only at hSw); go_simp; (try with_reducible rfl)⟩) (by assumption) ?_
      try simp only [Act.put, List.setIfInBounds_toArray, List.set_cons_zero, List.set_cons_succ, List.getElem_toArray, List.getElem_cons_zero, List.getElem_cons_succ]
      refine wpAnyH_take (i := 7) (v := ?_) rfl (by kernel_rfl) (by kernel_rfl) (by kernel_rfl) (fun _ _ _ h => h) (Or.inl ⟨by rfl, fun w hSw => by (try dsimp only at hSw); go_simp; (try with_reducible rfl)⟩) (by assumption) ?_
      try simp only [Act.put, List.setIfInBounds_toArray, List.set_cons_zero, List.set_cons_succ, List.getElem_toArray, List.getElem_cons_zero, List.getElem_cons_succ]
      refine wpAnyH_take (i := 8) (v := ?_) rfl (by kernel_rfl) (by kernel_rfl) (by kernel_rfl) (fun _ _ _ h => h) (Or.inl ⟨by rfl, fun w hSw => by (try dsimp only at hSw); go_simp; (try with_reducible rfl)⟩) (by assumption) ?_
      try simp only [Act.put, List.setIfInBounds_toArray, List.set_cons_zero, List.set_cons_succ, List.getElem_toArray, List.getElem_cons_zero, List.getElem_cons_succ]
      refine wpAnyH_done (by kernel_rfl) ?_ _
      go_wp2
      go_roundw
      case rel => exact ⟨k + 1, by omega, by go_num, HB.out.drew⟩
      case measure => go_light; simp [intOf]; omega
    · go_wp2
      go_ret
      exact ⟨rfl, HB.out⟩
def strL (k n : Nat) : List ByteArray := (List.range n).map fun i => markT (k + i)
theorem strL_length (k n : Nat) : (strL k n).length = n := by simp [strL]
theorem strL_get (k n i : Nat) (h : i < (strL k n).length) : (strL k n)[i] = markT (k + i) := by simp [strL]
def MarkedT (w : World) (lo hi : Nat) (a : Option Addr) (k n : Nat) (e : Ending) (w' : World) : Prop :=
  e = .returned (.int .i64 ((k + n : Nat) : Int)) ∧ ROwnIn 1 tenc w' lo hi a (strL k n) ∧ Within lo hi w w'
set_option maxRecDepth 100000 in
set_option maxHeartbeats 2000000 in
theorem markStringS (lo hi : Nat) (a : Option Addr) (cap : Nat) (s : List ByteArray) (k : Nat) (w : World) (hl : s.length ≤ 1048576) (hk0 : 0 < k) (hk1 : k ≤ 100000000) (h : ROwnIn 1 tenc w lo hi a s) :
    Calls Try.prog 77 #[.slice a s.length cap, .int .i64 (k : Int)] w (MarkedT w lo hi a k s.length) := by
  by_cases hn : s = []
  · subst hn
    go_enter Try.func77, Try.ntmps77
    go_wp2
    go_loop [1, 5] (fun z i => z = .int .i64 (k : Int) ∧ i = .int .i64 0) (fun _ _ => 0)
    case atStart => exact ⟨rfl, rfl⟩
    case round =>
      obtain ⟨rfl, rfl⟩ := hrel
      go_wp2
      go_ret
      exact ⟨ret_i64 (by simp), .inl rfl, Within.refl _ _ _⟩
  obtain ⟨g, rfl, h1, h2, ho⟩ : ∃ g, a = some ⟨g, 0, none⟩ ∧ lo ≤ g ∧ g < hi ∧ ROwn 1 tenc w g s := by
    rcases h with h | h
    · exact absurd h hn
    · exact h
  have HO := Lib.hid ho
  have hgz := ho.lt (by decide) (List.length_pos_iff.2 hn)
  clear ho hn h
  go_enter Try.func77, Try.ntmps77
  go_wp2
  go_loopw [1, 5] (fun z i wr => ∃ (j : Nat) (s' : List ByteArray), j ≤ s.length ∧ i = .int .i64 j ∧ z = .int .i64 ((k + j : Nat) : Int) ∧ s'.length = s.length ∧ s'.take j = (strL k s.length).take j ∧ ROwn 1 tenc wr g s' ∧ Within lo hi w wr) (fun _ i _ => s.length - (intOf i).toNat)
  case atStart => exact ⟨0, s, Nat.zero_le _, rfl, by simp, rfl, by simp, HO.out, Within.refl _ _ _⟩
  case round =>
    obtain ⟨j, s', hj, rfl, rfl, hl', ht, ho, hbel⟩ := hrel
    have HL := Lib.hid hl'
    have HT := Lib.hid ht
    have HO := Lib.hid ho
    have HB := Lib.hid hbel
    have hgr : g < wr.heap.size := Nat.lt_of_lt_of_le hgz hbel.size
    clear hl' ht ho hbel
    by_cases hlt : j < s.length
    · have HK := Lib.hid (show j < s'.length by rw [HL.out]; exact hlt)
      obtain ⟨q, hq⟩ : ∃ q, q = k + j := ⟨_, rfl⟩
      have HM := Lib.hid (show markT (k + j) = markT q by rw [hq])
      have HQ4 := Lib.hid (show ((k + (j + 1) : Nat) : Int) = (q : Int) + 1 by omega)
      have hq1 : q ≤ 200000000 := by omega
      have hq0 : 0 < q := by omega
      rw [← hq]
      clear hq
      go_wp2_with fail
      refine (markText' _ q (by omega) _ (by omega) (by omega)).mono ?_
      rintro e w1 ⟨rfl, hb⟩
      have HO1 := Lib.hid (HO.out.same (hb.block _ hgr))
      have d3 := town HO1.out HK.out
      have e3 := HO1.out.free j
      have HN := Lib.hid (town_set HO1.out j HK.out (markT q))
      have HWW := Lib.hid (HB.out.trans ((Within.below' (Within.refl lo hi wr) hb).trans (Within.mono (one_store w1 g j (.string (markT q))) h1 h2)))
      clear hb
      generalize s'[j]'HK.out = old at d3
      generalize markT q = T at HN HWW HM ⊢
      go_wp2
      go_roundw
      case rel =>
        refine ⟨j + 1, s'.set j T, by omega, by go_num, by rw [HQ4.out], by rw [List.length_set]; exact HL.out, ?_, HN.out, HWW.out⟩
        rw [List.take_succ_eq_append_getElem (by rw [List.length_set]; exact HK.out), List.take_set, List.set_eq_of_length_le (by rw [List.length_take]; omega), HT.out, List.getElem_set_self, List.take_succ_eq_append_getElem (by rw [strL_length]; exact hlt), strL_get, HM.out]
      case measure => go_light; simp [intOf]; omega
    · have he : s' = strL k s.length := by
        have h1 := HT.out
        rwa [List.take_of_length_le (by rw [HL.out]; omega), List.take_of_length_le (by rw [strL_length]; omega)] at h1
      have hj2 : j = s.length := by omega
      have HE := Lib.hid he
      have HJ := Lib.hid hj2
      clear he hj2
      go_wp2
      go_ret
      refine ⟨ret_i64 (by rw [HJ.out]), ?_, HB.out⟩
      have ho := HO.out
      rw [HE.out] at ho
      exact .inr ⟨_, rfl, h1, h2, ho⟩
set_option maxRecDepth 100000 in
set_option maxHeartbeats 2000000 in
theorem heldStringS (a : Option Addr) (cap n k : Nat) (w : World) (hl : n ≤ 1048576) (hk0 : 0 < k) (hk1 : k ≤ 100000000) (h : RowAt 1 tenc w a (strL k n)) :
    Calls Try.prog 78 #[.slice a n cap, .int .i64 (k : Int)] w fun e w' => e = .returned (.int .i64 ((k + n : Nat) : Int)) ∧ Below w.heap.size w w' := by
  have H := Lib.hid h
  clear h
  go_enter Try.func78, Try.ntmps78
  go_wp2
  go_loopw [1, 5] (fun z i wr => ∃ (j : Nat), j ≤ n ∧ i = .int .i64 j ∧ z = .int .i64 ((k + j : Nat) : Int) ∧ Below w.heap.size w wr) (fun _ i _ => n - (intOf i).toNat)
  case atStart => exact ⟨0, Nat.zero_le _, rfl, by simp, Below.refl _ _⟩
  case round =>
    obtain ⟨j, hj, rfl, rfl, hbel⟩ := hrel
    have HB := Lib.hid hbel
    clear hbel
    by_cases hlt : j < n
    · obtain ⟨g, off, rfl, hg, c⟩ := tcell (i := j) (RowAt.mono (by decide) H.out HB.out) (by rw [strL_length]; exact hlt)
      obtain ⟨q, hq⟩ : ∃ q, q = k + j := ⟨_, rfl⟩
      have hm : (strL k n)[j]'(by rw [strL_length]; exact hlt) = markT q := by rw [strL_get, hq]
      rw [hm] at c
      have HQ4 := Lib.hid (show ((k + (j + 1) : Nat) : Int) = (q : Int) + 1 by omega)
      have hq1 : q ≤ 200000000 := by omega
      have hq0 : 0 < q := by omega
      rw [← hq]
      clear hq hm
      generalize hT : markT q = T at c
      have i0 : (0 : Int) ≤ (j : Int) := by omega
      have i1 : (j : Int) < (n : Int) := by omega
      go_wp2_with fail
      refine wp_region_held_drew (S := fun w' => w'.cell? ⟨g, off + j, none⟩ = some (.string T)) (by kernel_rfl) (by first | exact c | assumption | (rw [hb.cell (by exact hg)]; exact c)) (fun hHeld => ?_)
      refine wpAnyH_take (i := 0) (v := ?_) rfl (by kernel_rfl) (by kernel_rfl) (by kernel_rfl) (fun _ _ _ h => h) (Or.inl ⟨by rfl, fun w hSw => by (try dsimp only at hSw); go_simp; (try with_reducible rfl)⟩) (by assumption) ?_
      try simp only [Act.put, List.setIfInBounds_toArray, List.set_cons_zero, List.set_cons_succ, List.getElem_toArray, List.getElem_cons_zero, List.getElem_cons_succ]
      refine wpAnyH_take (i := 1) (v := ?_) rfl (by kernel_rfl) (by kernel_rfl) (by kernel_rfl) (fun _ _ _ h => h) (Or.inl ⟨by rfl, fun w hSw => by (try dsimp only at hSw); go_simp; (try with_reducible rfl)⟩) (by assumption) ?_
      try simp only [Act.put, List.setIfInBounds_toArray, List.set_cons_zero, List.set_cons_succ, List.getElem_toArray, List.getElem_cons_zero, List.getElem_cons_succ]
      refine wpAnyH_take (i := 2) (v := ?_) rfl (by kernel_rfl) (by kernel_rfl) (by kernel_rfl) (fun _ _ _ h => h) (Or.inl ⟨by rfl, fun w hSw => by (try dsimp only at hSw); go_simp; (try with_reducible rfl)⟩) (by assumption) ?_
      try simp only [Act.put, List.setIfInBounds_toArray, List.set_cons_zero, List.set_cons_succ, List.getElem_toArray, List.getElem_cons_zero, List.getElem_cons_succ]
      refine wpAnyH_take (i := 3) (v := ?_) rfl (by kernel_rfl) (by kernel_rfl) (by kernel_rfl) (fun _ _ _ h => h) (Or.inl ⟨by rfl, fun w hSw => by (try dsimp only at hSw); go_simp; (try with_reducible rfl)⟩) (by assumption) ?_
      try simp only [Act.put, List.setIfInBounds_toArray, List.set_cons_zero, List.set_cons_succ, List.getElem_toArray, List.getElem_cons_zero, List.getElem_cons_succ]
      refine wpAnyH_take (i := 4) (v := ?_) rfl (by kernel_rfl) (by kernel_rfl) (by kernel_rfl) (fun _ _ _ h => h) (Or.inl ⟨by rfl, fun w hSw => by (try dsimp only at hSw); go_simp; (try with_reducible rfl)⟩) (by assumption) ?_
      try simp only [Act.put, List.setIfInBounds_toArray, List.set_cons_zero, List.set_cons_succ, List.getElem_toArray, List.getElem_cons_zero, List.getElem_cons_succ]
      refine wpAnyH_ready (rs := [5]) (by kernel_rfl) (by simp) ?_
      refine AllReadyH.cons rfl (fun K hK => ?_) AllReadyH.nil
      go_simp
      go_at_call 129; refine (markText' _ q (by omega) _ (by omega) (by omega)).mono ?_; rintro e w1 ⟨rfl, hb⟩; rw [hT]; have HV := Lib.hid (HB.out.drew.trans (hb.mono HB.out.size))
      go_wp2_with fail
      refine hK.out _ _ (by first | exact c | assumption | (rw [hb.cell (by exact hg)]; exact c)) (fun hHeld => ?_)
      clear hK K
      try simp only [Act.put, List.setIfInBounds_toArray, List.set_cons_zero, List.set_cons_succ, List.getElem_toArray, List.getElem_cons_zero, List.getElem_cons_succ]
      refine wpAnyH_take (i := 6) (v := ?_) rfl (by kernel_rfl) (by kernel_rfl) (by kernel_rfl) (fun _ _ _ h => h) (Or.inl ⟨by rfl, fun w hSw => by (try dsimp only at hSw); go_simp; (try with_reducible rfl)⟩) (by assumption) ?_
      try simp only [Act.put, List.setIfInBounds_toArray, List.set_cons_zero, List.set_cons_succ, List.getElem_toArray, List.getElem_cons_zero, List.getElem_cons_succ]
      refine wpAnyH_done (by kernel_rfl) ?_ _
      go_wp2
      go_roundw
      case rel => exact ⟨j + 1, by omega, by go_num, by rw [HQ4.out], HV.out⟩
      case measure => go_light; simp [intOf]; omega
    · have hj2 : j = n := by omega
      have HJ := Lib.hid hj2
      clear hj2
      go_wp2
      go_ret
      exact ⟨ret_i64 (by rw [HJ.out]), HB.out⟩
/-- the data of the Sibs that are not gone -/
def vals (s : List Sib) : List ByteArray := (s.filter fun x => !x.2.1).map fun x => x.2.2
def setVals (l : List (Int × Int)) (s : List Sib) : List ByteArray := if setB l s = true then vals s else []
theorem vals_len (s : List Sib) : (vals s).length ≤ s.length := by unfold vals; rw [List.length_map]; exact List.length_filter_le _ _
theorem vals_take (s : List Sib) (k : Nat) (h : k < s.length) : vals (s.take (k + 1)) = vals (s.take k) ++ (if s[k].2.1 = true then [] else [s[k].2.2]) := by
  unfold vals
  rw [List.take_succ_eq_append_getElem h, List.filter_append, List.map_append]
  cases e : s[k].2.1 <;> simp [e]
theorem setVals_no {l : List (Int × Int)} {s : List Sib} (h : setB l s = false) : setVals l s = [] := if_neg (by rw [h]; simp)
theorem setVals_yes {l : List (Int × Int)} {s : List Sib} (h : setB l s = true) : setVals l s = vals s := if_pos h
def VGives (w : World) (l : List ByteArray) (e : Ending) (w' : World) : Prop :=
  ∃ a cap, e = .returned (.slice a l.length cap) ∧ ROwnIn 1 tenc w' w.heap.size w'.heap.size a l ∧ Below w.heap.size w w'
theorem run_make_strs (n : Nat) (hn : n ≤ 1048576) (w : World) :
    (Instr.makeSlice 61 (.int .i64 0) (.int .i64 (n : Int))).run Try.prog w = .ok (.slice (some ⟨w.heap.size, 0, none⟩) 0 n) (w.alloc (.cells (madeCells #[.string ⟨#[]⟩] (n * 1)) 9)) := by
  obtain ⟨i0, hi, hz0, hz1, hz2⟩ := info_parts Mk.infoS
  have := run_make (P := Try.prog) w 61 9 i0 _ Try.underlying61 hi hz0 .i64 .i64 0 n (by omega) (by omega) (by rw [hz2]; omega) (by omega)
  rw [hz1] at this
  simpa [Value.cells] using this
end Go.Proofs.Ytflhiopdfkggdaa.Sb
