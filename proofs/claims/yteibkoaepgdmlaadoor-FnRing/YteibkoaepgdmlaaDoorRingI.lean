/- Contract of impl.RingNew. No condition. -/
import Derived.Test.YteibkoaepgdmlaaDoorTokSort
import Derived.Test.YteibkoaepgdmlaaDoorTokOf
import Derived.Test.YteibkoaepgdmlaaDoorTok
import Derived.Test.YteibkoaepgdmlaaDoorNode
set_option linter.unusedSimpArgs false
set_option linter.unusedVariables false
namespace Go.Proofs.YteibkoaepgdmlaaDoor.Rg
open Go.RowKit Go.Proofs.YteibkoaepgdmlaaDoor.Mk Go.Proofs.YteibkoaepgdmlaaDoor.Rw Go.Proofs.YteibkoaepgdmlaaDoor.Tk

/-- the ring that both make: none if a number is out of range -/
def newL (nodes each : Int) : List Tok := if isB nodes 1 5 = true ∧ isB each 1 8 = true then ringL nodes.toNat each.toNat else []
def newN (nodes each : Int) : Int := if isB nodes 1 5 = true ∧ isB each 1 8 = true then nodes else 0
def newC (nodes each : Int) : Int := if isB nodes 1 5 = true ∧ isB each 1 8 = true then 0 else 1
theorem new_yes {nodes each : Int} (h : isB nodes 1 5 = true) (h' : isB each 1 8 = true) : newL nodes each = ringL nodes.toNat each.toNat ∧ newN nodes each = nodes ∧ newC nodes each = 0 :=
  ⟨if_pos ⟨h, h'⟩, if_pos ⟨h, h'⟩, if_pos ⟨h, h'⟩⟩
theorem new_no {nodes each : Int} (h : ¬ (isB nodes 1 5 = true ∧ isB each 1 8 = true)) : newL nodes each = [] ∧ newN nodes each = 0 ∧ newC nodes each = 1 :=
  ⟨if_neg h, if_neg h, if_neg h⟩
theorem newL_len (nodes each : Int) : (newL nodes each).length ≤ 40 := by
  by_cases h : isB nodes 1 5 = true ∧ isB each 1 8 = true
  · rw [(new_yes h.1 h.2).1, ringL_length]
    have h1 := (isB_iff _ _ _).1 h.1
    have h2 := (isB_iff _ _ _).1 h.2
    have := Nat.mul_le_mul (show nodes.toNat ≤ 5 by omega) (show each.toNat ≤ 8 by omega)
    omega
  · rw [(new_no h).1]; simp
/-- what a call that makes a ring leaves -/
def RGives (w : World) (nodes : Int) (l : List Tok) (code : Int) (e : Ending) (w' : World) : Prop :=
  ∃ a cap, e = .returned (.agg #[.int .i64 nodes, .slice a l.length cap, .int .i64 code]) ∧ OwnIn w' w.heap.size w'.heap.size a l ∧ Below w.heap.size w w'
theorem run_make_toks0 (n : Nat) (hn : n ≤ 1048576) (w : World) :
    (Instr.makeSlice 25 (.int .i64 0) (.int .i64 (n : Int))).run Tryd.prog w = .ok (.slice (some ⟨w.heap.size, 0, none⟩) 0 n) (w.alloc (.cells (madeCells #[.int .i64 0, .int .i64 0] (n * 2)) 71)) := by
  obtain ⟨i0, hi, hz0, hz1, hz2⟩ := info_parts infoT
  have := run_make (P := Tryd.prog) w 25 71 i0 _ Tryd.underlying25 hi hz0 .i64 .i64 0 n (by omega) (by omega) (by rw [hz2]; omega) (by omega)
  rw [hz1] at this
  simpa [Value.cells] using this
set_option maxRecDepth 100000 in
set_option maxHeartbeats 2000000 in
theorem impl_ringNew_no (nodes each : Int) (w : World) (h : ¬ (isB nodes 1 5 = true ∧ isB each 1 8 = true)) :
    Calls Tryd.prog 17 #[.int .i64 nodes, .int .i64 each] w (RGives w 0 [] 1) := by
  have C0 := Lib.hid (Cells.new w #[.int .i64 0, .slice none 0 0, .int .i64 0] 40)
  have B0 := Lib.hid (step_alloc w (.cells #[.int .i64 0, .slice none 0 0, .int .i64 0] 40))
  obtain ⟨c0, c1, c2, f0, f1, f2⟩ := C0.out.c3
  have hx := Lib.hid (((C0.out.set 0 (by simp) (.int .i64 0)).set 1 (by simp) (.slice none 0 0)).set 2 (by simp) (.int .i64 1))
  have hbx := Lib.hid (((B0.out.setCell (p := ⟨w.heap.size, 0, none⟩) (Nat.le_refl _) (.int .i64 0)).setCell (p := ⟨w.heap.size, 1, none⟩) (Nat.le_refl _) (.slice none 0 0)).setCell (p := ⟨w.heap.size, 2, none⟩) (Nat.le_refl _) (.int .i64 1))
  rw [isB_iff, isB_iff] at h
  by_cases h1 : isB nodes 1 5 = true
  · have hn := (isB_iff _ _ _).1 h1
    have he : each < 1 ∨ 8 < each := by omega
    rcases he with he | he
    all_goals
      go_enter Tryd.func17, Tryd.ntmps17
      go_wp2_with fail
      generalize w.alloc (.cells #[.int .i64 0, .slice none 0 0, .int .i64 0] 40) = wa at c0 c1 c2 f0 f1 f2 hx hbx C0 B0 ⊢
      refine (nodeRight _ _).mono ?_
      rw [h1]
      rintro e w' ⟨rfl, rfl⟩
      go_wp2
      obtain ⟨d0, d1, d2, _, _, _⟩ := hx.out.c3
      exact bodyPost_ret (v := .agg #[.int .i64 0, .slice none 0 0, .int .i64 1]) (by simp [results, Tryd.results17, go_sem, d0, d1, d2]) rfl ⟨none, 0, rfl, .inl rfl, hbx.out⟩
  · have h2 : isB nodes 1 5 = false := by simpa using h1
    go_enter Tryd.func17, Tryd.ntmps17
    go_wp2_with fail
    generalize w.alloc (.cells #[.int .i64 0, .slice none 0 0, .int .i64 0] 40) = wa at c0 c1 c2 f0 f1 f2 hx hbx C0 B0 ⊢
    refine (nodeRight _ _).mono ?_
    rw [h2]
    rintro e w' ⟨rfl, rfl⟩
    go_wp2
    obtain ⟨d0, d1, d2, _, _, _⟩ := hx.out.c3
    exact bodyPost_ret (v := .agg #[.int .i64 0, .slice none 0 0, .int .i64 1]) (by simp [results, Tryd.results17, go_sem, d0, d1, d2]) rfl ⟨none, 0, rfl, .inl rfl, hbx.out⟩
set_option maxRecDepth 100000 in
set_option maxHeartbeats 4000000 in
theorem impl_ringNew_yes (n m : Nat) (w : World) (hn0 : 1 ≤ n) (hn : n ≤ 5) (hm0 : 1 ≤ m) (hm : m ≤ 8) :
    Calls Tryd.prog 17 #[.int .i64 (n : Int), .int .i64 (m : Int)] w (RGives w n (ringL n m) 0) := by
  have h1 : isB (n : Int) 1 5 = true := (isB_iff _ _ _).2 (by omega)
  have C0 := Lib.hid (Cells.new w #[.int .i64 0, .slice none 0 0, .int .i64 0] 40)
  have B0 := Lib.hid (step_alloc w (.cells #[.int .i64 0, .slice none 0 0, .int .i64 0] 40))
  have hgz : w.heap.size < (w.alloc (.cells #[.int .i64 0, .slice none 0 0, .int .i64 0] 40)).heap.size := by simp
  have hnm : n * m ≤ 40 := Nat.mul_le_mul hn hm
  have hmul : (n : Int) * (m : Int) = ((n * m : Nat) : Int) := by simp
  have HNM := Lib.hid (show n * m = n * m from rfl)
  generalize hq : n * m = q at hnm hmul HNM
  have hmk := run_make_toks0 q (by omega)
  go_enter Tryd.func17, Tryd.ntmps17
  go_wp2_with fail
  generalize w.alloc (.cells #[.int .i64 0, .slice none 0 0, .int .i64 0] 40) = wa at C0 B0 hgz ⊢
  refine (nodeRight _ _).mono ?_
  rw [h1]
  rintro e w' ⟨rfl, rfl⟩
  go_wp2
  clear hmk hmul
  have O1 := Lib.hid (World.ownsRow_made (base := wa.heap.size) (e := 71) (size := 2) wa (madeCells #[.int .i64 0, .int .i64 0] (q * 2)) q (Nat.le_refl _) (by unfold maxLen; omega) (by rw [size_madeCells]))
  have B1 := Lib.hid (step_alloc wa (.cells (madeCells #[.int .i64 0, .int .i64 0] (q * 2)) 71))
  generalize wa.alloc (.cells (madeCells #[.int .i64 0, .int .i64 0] (q * 2)) 71) = wb at O1 B1 ⊢
  go_loopw [5, 25] (fun z i wr => ∃ (k : Nat), k ≤ n ∧ i = .int .i64 k ∧ wr.ownsRow wa.heap.size 71 2 z (raw k m).length (flat (raw k m)) ∧ Below wa.heap.size wa wr) (fun _ i _ => n - (intOf i).toNat)
  case atStart => exact ⟨0, Nat.zero_le _, rfl, O1.out, B1.out⟩
  case round =>
    obtain ⟨k, hk, rfl, ho, hbel⟩ := hrel
    clear O1 B1
    have HO := Lib.hid ho
    have HB := Lib.hid hbel
    clear ho hbel
    by_cases hlt : k < n
    · go_wp2
      go_loopw [5, 29] (fun z i wr => ∃ (j : Nat), j ≤ m ∧ i = .int .i64 j ∧ wr.ownsRow wa.heap.size 71 2 z (raw k m ++ row (k + 1) j).length (flat (raw k m ++ row (k + 1) j)) ∧ Below wa.heap.size wa wr) (fun _ i _ => m - (intOf i).toNat)
      case atStart => exact ⟨0, Nat.zero_le _, rfl, by simpa [row] using HO.out, HB.out⟩
      case round =>
        obtain ⟨j, hj, rfl, ho, hbel⟩ := hrel
        clear HO HB
        have HO := Lib.hid ho
        have HB := Lib.hid hbel
        clear ho hbel
        have HL : Hid ((raw k m ++ row (k + 1) j).length ≤ 1000) := Lib.hid (by
          rw [List.length_append, raw_length, row_length]
          have := Nat.mul_le_mul (show k ≤ 5 by omega) hm
          omega)
        by_cases hlt2 : j < m
        · have hto : ∀ W, Calls Tryd.prog 53 #[.int .i64 ((k : Int) + 1), .int .i64 ((j : Int) + 1)] W fun e w' => e = .returned (mv (tok (k + 1) (j + 1))) ∧ Below W.heap.size W w' := fun W => tokenOf (k + 1) (j + 1) (by omega) (by omega) (by omega) (by omega) W
          have HS := Lib.hid (show (raw k m ++ row (k + 1) j) ++ [tok (k + 1) (j + 1)] = raw k m ++ row (k + 1) (j + 1) by rw [row_snoc, List.append_assoc])
          generalize tok (k + 1) (j + 1) = tk at hto HS
          obtain ⟨x, y⟩ := tk
          unfold mv at hto
          dsimp only at hto
          have HT := Lib.hid hto
          clear hto
          generalize raw k m ++ row (k + 1) j = L at HO HL HS
          go_wp2_with fail
          refine (HT.out _).mono ?_
          rintro e w1 ⟨rfl, hb⟩
          have HO1 := Lib.hid (own_below HO.out hb)
          have HB1 := Lib.hid (HB.out.trans (hb.mono HB.out.size))
          have hz1 : wa.heap.size ≤ w1.heap.size := HB1.out.size
          clear hb HO HB HT
          go_wp2_with (at_builtin; refine wpList_append_tok w1 rfl _ _ rfl wa.heap.size _ L (x, y) (by rfl) w1.heap.size rfl (by rfl) HO1.out (by have := HL.out; omega) hz1 ?_; intro v' w4 ho4 hb4)
          have HO4 := Lib.hid ho4
          have HB4 := Lib.hid (HB1.out.trans hb4)
          clear ho4 hb4
          go_wp2
          go_roundw
          case rel => exact ⟨j + 1, by omega, by go_num, by rw [← HS.out]; exact HO4.out, HB4.out⟩
          case measure => go_light; simp [intOf]; omega
        · have hj2 : j = m := by omega
          subst hj2
          go_wp2
          go_roundw
          case rel => exact ⟨k + 1, by omega, by go_num, by rw [raw_snoc]; exact HO.out, HB.out⟩
          case measure => go_light; simp [intOf]; omega
    · have hk2 : k = n := by omega
      subst hk2
      obtain ⟨qa, qc, rfl, ho2⟩ := own_rowT HO.out
      have hlen : (raw k m).length = q := by rw [raw_length]; exact hq
      have hpos : 0 < (raw k m).length := by rw [raw_length]; exact Nat.mul_pos (by omega) (by omega)
      obtain ⟨g, rfl, hg1, hg2, hown⟩ : ∃ g, qa = some ⟨g, 0, none⟩ ∧ wa.heap.size ≤ g ∧ g < wr.heap.size ∧ Own wr g (raw k m) := by
        rcases ho2 with h | h
        · rw [h] at hpos; cases hpos
        · exact h
      have hsort := sortTok g qc (raw k m) wr (by omega) hown hg2
      rw [hlen] at hsort ⊢
      have HR : Hid (tsort (raw k m) = ringL k m) := Lib.hid rfl
      have HRL : Hid ((ringL k m).length = q) := Lib.hid (by rw [ringL_length]; exact hq)
      generalize tsort (raw k m) = R at hsort HR
      rw [← HR.out] at HRL
      have HSo := Lib.hid hsort
      have C1 := Lib.hid (C0.out.below HB.out)
      have B1 := Lib.hid (Below.trans B0.out (HB.out.mono B0.out.size))
      clear hsort HO hown ho2 hpos hlen C0 HB
      go_wp2_with fail
      refine HSo.out.mono ?_
      rintro e w1 ⟨rfl, how, hw⟩
      have C2 := Lib.hid (C1.out.within hw (by omega))
      have B2 := Lib.hid (B1.out.trans (hw.below (by omega) B1.out.size))
      have hg3 : g < w1.heap.size := Nat.lt_of_lt_of_le hg2 hw.size
      have OW := Lib.hid how
      clear how hw HSo C1 B1
      obtain ⟨c0, c1, c2, f0, f1, f2⟩ := C2.out.c3
      go_wp2
      have hx := ((C2.out.set 0 (by simp) (.int .i64 (k : Int))).set 1 (by simp) (.slice (some ⟨g, 0, none⟩) q qc)).set 2 (by simp) (.int .i64 0)
      have hwi := (((Within.refl w.heap.size (w.heap.size + 1) w1).setCell (p := ⟨w.heap.size, 0, none⟩) (Nat.le_refl _) (Nat.lt_succ_self _) (.int .i64 (k : Int))).setCell (p := ⟨w.heap.size, 1, none⟩) (Nat.le_refl _) (Nat.lt_succ_self _) (.slice (some ⟨g, 0, none⟩) q qc)).setCell (p := ⟨w.heap.size, 2, none⟩) (Nat.le_refl _) (Nat.lt_succ_self _) (.int .i64 0)
      obtain ⟨d0, d1, d2, _, _, _⟩ := hx.c3
      have ho3 := OW.out.same (hwi.block g hg3 (by omega))
      refine bodyPost_ret (v := .agg #[.int .i64 (k : Int), .slice (some ⟨g, 0, none⟩) q qc, .int .i64 0]) (by simp [results, Tryd.results17, go_sem, d0, d1, d2]) rfl ⟨some ⟨g, 0, none⟩, qc, by rw [← HR.out, HRL.out], .inr ⟨g, rfl, by omega, Nat.lt_of_lt_of_le hg3 hwi.size, by rw [← HR.out]; exact ho3⟩, B2.out.trans (hwi.below (Nat.le_refl _) B2.out.size)⟩
theorem impl_ringNew (nodes each : Int) (w : World) : Calls Tryd.prog 17 #[.int .i64 nodes, .int .i64 each] w (RGives w (newN nodes each) (newL nodes each) (newC nodes each)) := by
  by_cases h : isB nodes 1 5 = true ∧ isB each 1 8 = true
  · obtain ⟨e1, e2, e3⟩ := new_yes h.1 h.2
    rw [e1, e2, e3]
    have h1 := (isB_iff _ _ _).1 h.1
    have h2 := (isB_iff _ _ _).1 h.2
    obtain ⟨n, rfl⟩ := Int.eq_ofNat_of_zero_le (show 0 ≤ nodes by omega)
    obtain ⟨m, rfl⟩ := Int.eq_ofNat_of_zero_le (show 0 ≤ each by omega)
    exact impl_ringNew_yes n m w (by omega) (by omega) (by omega) (by omega)
  · obtain ⟨e1, e2, e3⟩ := new_no h
    rw [e1, e2, e3]
    exact impl_ringNew_no nodes each w h
end Go.Proofs.YteibkoaepgdmlaaDoor.Rg
