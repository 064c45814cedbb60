/- Contracts of the laws' marking and holding of Sibs and Sets: markSibS, heldSibS, markSet, heldSet. Condition: at most 1048576 marks and Sibs. -/
import Derived.Test.YtloenigleamcoaaMarkText
import Derived.Test.YtloenigleamcoaaTRow
import Derived.Test.YtloenigleamcoaaSetLaw0
set_option linter.unusedSimpArgs false
set_option linter.unusedVariables false
namespace Go.Proofs.Ytloenigleamcoaa.Sb
open Go.RowKit Go.Proofs.Ytloenigleamcoaa.Mk Go.Proofs.Ytloenigleamcoaa.Rw

/-- the mark of place i, from k on -/
def sibQ (q : Nat) : Sib := (((q : Int), (q : Int) + 1), ((q : Int) + 1 + 1) % 3 == 0, markT (q + 3))
def sibM (k i : Nat) : Sib := sibQ (k + 4 * i)
theorem SOwn.put3 {w w' : World} {g : Nat} {s : List Sib} (h : SOwn w g s) (j : Nat) (hj : j < s.length) (x : Sib)
    (hc : ∀ o, w'.cell? ⟨g, o, none⟩ = (((w.setCell ⟨g, j * 4, none⟩ (.int .i64 x.1.1)).setCell ⟨g, j * 4 + 1, none⟩ (.int .i64 x.1.2)).setCell ⟨g, j * 4 + 2, none⟩ (.bool x.2.1)).cell? ⟨g, o, none⟩)
    (hf : ∀ o, w'.frozen? ⟨g, o, none⟩ = w.frozen? ⟨g, o, none⟩) : SOwn (w'.setCell ⟨g, j * 4 + 3, none⟩ (.string x.2.2)) g (s.set j x) := by
  have other : ∀ (W : World) (p q : Nat) (v : Value), p ≠ q → (W.setCell ⟨g, p, none⟩ v).cell? ⟨g, q, none⟩ = W.cell? ⟨g, q, none⟩ := fun W p q v h => World.cell?_setCell_other _ _ _ _ (ne_off h)
  obtain ⟨c0, c1, c2, c3⟩ := SOwn.cells h hj
  refine h.put j x (fun i hi => ?_) (fun o ho => ?_) (fun o => ?_)
  · match i, hi with
    | 0, _ =>
      show (w'.setCell ⟨g, j * 4 + 3, none⟩ (.string x.2.2)).cell? ⟨g, j * 4, none⟩ = _
      rw [other _ _ _ _ (by omega), hc, other _ _ _ _ (by omega), other _ _ _ _ (by omega)]
      exact World.cell?_setCell_same _ _ _ c0
    | 1, _ =>
      rw [other _ _ _ _ (by omega), hc, other _ _ _ _ (by omega)]
      exact World.cell?_setCell_same _ _ _ ((other _ _ _ _ (by omega)).trans c1)
    | 2, _ =>
      rw [other _ _ _ _ (by omega), hc]
      exact World.cell?_setCell_same _ _ _ ((other _ _ _ _ (by omega)).trans ((other _ _ _ _ (by omega)).trans c2))
    | 3, _ =>
      exact World.cell?_setCell_same _ _ _ ((hc _).trans ((other _ _ _ _ (by omega)).trans ((other _ _ _ _ (by omega)).trans ((other _ _ _ _ (by omega)).trans c3))))
  · rw [other _ _ _ _ (by omega), hc, other _ _ _ _ (by omega), other _ _ _ _ (by omega), other _ _ _ _ (by omega)]
  · rw [World.frozen?_setCell, hf]
def sibL (k n : Nat) : List Sib := (List.range n).map (sibM k)
theorem sibL_length (k n : Nat) : (sibL k n).length = n := by simp [sibL]
theorem sibL_get (k n i : Nat) (h : i < (sibL k n).length) : (sibL k n)[i] = sibM k i := by simp [sibL]
/-- what markSibS leaves -/
def MarkedS (w : World) (lo hi : Nat) (a : Option Addr) (k n : Nat) (e : Ending) (w' : World) : Prop :=
  e = .returned (.int .i64 ((k + 4 * n : Nat) : Int)) ∧ SOwnIn w' lo hi a (sibL k n) ∧ Within lo hi w w'
set_option maxRecDepth 100000 in
set_option maxHeartbeats 2000000 in
theorem markSibS (lo hi : Nat) (a : Option Addr) (cap : Nat) (s : List Sib) (k : Nat) (w : World) (hl : s.length ≤ 1048576) (hk0 : 0 < k) (hk1 : k ≤ 100000000) (h : SOwnIn w lo hi a s) :
    Calls Try.prog 56 #[.slice a s.length cap, .int .i64 (k : Int)] w (MarkedS w lo hi a k s.length) := by
  by_cases hn : s = []
  · subst hn
    go_enter Try.func56, Try.ntmps56
    go_wp2
    go_loop [1, 5] (fun z i => z = .int .i64 (k : Int) ∧ i = .int .i64 0) (fun _ _ => 0)
    case atStart => exact ⟨rfl, rfl⟩
    case round =>
      obtain ⟨rfl, rfl⟩ := hrel
      go_wp2
      go_ret
      exact ⟨ret_i64 (by simp), .inl rfl, Within.refl _ _ _⟩
  obtain ⟨g, rfl, h1, h2, ho⟩ : ∃ g, a = some ⟨g, 0, none⟩ ∧ lo ≤ g ∧ g < hi ∧ SOwn w g s := by
    rcases h with h | h
    · exact absurd h hn
    · exact h
  have HO := Lib.hid ho
  have HN := Lib.hid hn
  have hgz := ho.lt (by decide) (List.length_pos_iff.2 hn)
  clear ho hn h
  go_enter Try.func56, Try.ntmps56
  go_wp2
  go_loopw [1, 5] (fun z i wr => ∃ (j : Nat) (s' : List Sib), j ≤ s.length ∧ i = .int .i64 j ∧ z = .int .i64 ((k + 4 * j : Nat) : Int) ∧ s'.length = s.length ∧ s'.take j = (sibL k s.length).take j ∧ SOwn wr g s' ∧ Within lo hi w wr) (fun _ i _ => s.length - (intOf i).toNat)
  case atStart => exact ⟨0, s, Nat.zero_le _, rfl, by simp, rfl, by simp, HO.out, Within.refl _ _ _⟩
  case round =>
    obtain ⟨j, s', hj, rfl, rfl, hl', ht, ho, hbel⟩ := hrel
    have HL := Lib.hid hl'
    have HT := Lib.hid ht
    have HO := Lib.hid ho
    have HB := Lib.hid hbel
    have hgr : g < wr.heap.size := Nat.lt_of_lt_of_le hgz hbel.size
    clear hl' ht ho hbel
    by_cases hlt : j < s.length
    · have HK := Lib.hid (show j < s'.length by rw [HL.out]; exact hlt)
      obtain ⟨c0, c1, c2, c3⟩ := SOwn.cells HO.out HK.out
      have f0 := HO.out.free (j * 4)
      have f1 := HO.out.free (j * 4 + 1)
      have f2 := HO.out.free (j * 4 + 2)
      have f3 := HO.out.free (j * 4 + 3)
      obtain ⟨q, hq⟩ : ∃ q, q = k + 4 * j := ⟨_, rfl⟩
      have HM := Lib.hid (show sibM k j = sibQ q by rw [hq]; rfl)
      have hq4 : ((k + 4 * (j + 1) : Nat) : Int) = (q : Int) + 1 + 1 + 1 + 1 := by omega
      have HQ4 := Lib.hid hq4
      have hq1 : q ≤ 200000000 := by omega
      rw [← hq]
      clear hq hq4
      have hw3 := ((one_store wr g (j * 4) (.int .i64 (q : Int))).trans (one_store _ g (j * 4 + 1) (.int .i64 ((q : Int) + 1)))).trans (one_store _ g (j * 4 + 2) (.bool (((q : Int) + 1 + 1) % 3 == 0)))
      have HW3 := Lib.hid hw3
      clear hw3
      go_wp2_with fail
      refine (markText' _ (q + 3) (by omega) _ (by omega) (by omega)).mono ?_
      rintro e w1 ⟨rfl, hb⟩
      have hz1 := hb.size
      simp only [size_set] at hz1
      have hcc : ∀ o, w1.cell? ⟨g, o, none⟩ = (((wr.setCell ⟨g, j * 4, none⟩ (.int .i64 (q : Int))).setCell ⟨g, j * 4 + 1, none⟩ (.int .i64 ((q : Int) + 1))).setCell ⟨g, j * 4 + 2, none⟩ (.bool (((q : Int) + 1 + 1) % 3 == 0))).cell? ⟨g, o, none⟩ := fun o => hb.cell (p := ⟨g, o, none⟩) (by simp only [size_set]; exact hgr)
      have hff : ∀ o, w1.frozen? ⟨g, o, none⟩ = wr.frozen? ⟨g, o, none⟩ := fun o => (hb.frozen (p := ⟨g, o, none⟩) (by simp only [size_set]; exact hgr)).trans (by rw [World.frozen?_setCell, World.frozen?_setCell, World.frozen?_setCell])
      have HN := Lib.hid (SOwn.put3 HO.out j HK.out (sibQ q) hcc hff)
      have d3 : w1.cell? ⟨g, j * 4 + 3, none⟩ = some (.string (s'[j]'HK.out).2.2) := by
        rw [hcc, World.cell?_setCell_other _ _ _ _ (ne_off (by omega)), World.cell?_setCell_other _ _ _ _ (ne_off (by omega)), World.cell?_setCell_other _ _ _ _ (ne_off (by omega))]; exact c3
      have e3 : w1.frozen? ⟨g, j * 4 + 3, none⟩ = false := (hff _).trans f3
      have HWW := Lib.hid (HB.out.trans ((Within.below' (Within.mono HW3.out h1 h2) hb).trans (Within.mono (one_store w1 g (j * 4 + 3) (.string (markT (q + 3)))) h1 h2)))
      clear hcc hff hb c0 c1 c2 c3 f0 f1 f2 f3
      generalize s'[j]'HK.out = old at d3
      go_wp2
      go_roundw
      case rel =>
        refine ⟨j + 1, s'.set j (sibQ q), by omega, by go_num, by rw [HQ4.out], by rw [List.length_set]; exact HL.out, ?_, HN.out, HWW.out⟩
        rw [List.take_succ_eq_append_getElem (by rw [List.length_set]; exact HK.out), List.take_set, List.set_eq_of_length_le (by rw [List.length_take]; omega), HT.out, List.getElem_set_self, List.take_succ_eq_append_getElem (by rw [sibL_length]; exact hlt), sibL_get, HM.out]
      case measure => go_light; simp [intOf]; omega
    · have he : s' = sibL k s.length := by
        have h1 := HT.out
        rwa [List.take_of_length_le (by rw [HL.out]; omega), List.take_of_length_le (by rw [sibL_length]; omega)] at h1
      have hj2 : j = s.length := by omega
      have HE := Lib.hid he
      have HJ := Lib.hid hj2
      clear he hj2
      go_wp2
      go_ret
      refine ⟨ret_i64 (by rw [HJ.out]), ?_, HB.out⟩
      have ho := HO.out
      rw [HE.out] at ho
      exact .inr ⟨_, rfl, h1, h2, ho⟩

set_option maxRecDepth 100000 in
set_option maxHeartbeats 2000000 in
theorem heldSibS (a : Option Addr) (cap n k : Nat) (w : World) (hl : n ≤ 1048576) (hk0 : 0 < k) (hk1 : k ≤ 100000000) (h : SibsAt w a (sibL k n)) :
    Calls Try.prog 106 #[.slice a n cap, .int .i64 (k : Int)] w fun e w' => e = .returned (.int .i64 ((k + 4 * n : Nat) : Int)) ∧ Below w.heap.size w w' := by
  have H := Lib.hid h
  clear h
  go_enter Try.func106, Try.ntmps106
  go_wp2
  go_loopw [1, 5] (fun z i wr => ∃ (j : Nat), j ≤ n ∧ i = .int .i64 j ∧ z = .int .i64 ((k + 4 * j : Nat) : Int) ∧ Below w.heap.size w wr) (fun _ i _ => n - (intOf i).toNat)
  case atStart => exact ⟨0, Nat.zero_le _, rfl, by simp, Below.refl _ _⟩
  case round =>
    obtain ⟨j, hj, rfl, rfl, hbel⟩ := hrel
    have HB := Lib.hid hbel
    clear hbel
    by_cases hlt : j < n
    · obtain ⟨g, off, rfl, hg, c0, c1, c2, c3⟩ := (H.out.mono HB.out).cells (i := j) (by rw [sibL_length]; exact hlt)
      obtain ⟨q, hq⟩ : ∃ q, q = k + 4 * j := ⟨_, rfl⟩
      have hm : (sibL k n)[j]'(by rw [sibL_length]; exact hlt) = sibQ q := by rw [sibL_get, hq]; rfl
      rw [hm] at c0 c1 c2 c3
      have hq4 : ((k + 4 * (j + 1) : Nat) : Int) = (q : Int) + 1 + 1 + 1 + 1 := by omega
      have HQ4 := Lib.hid hq4
      have hq1 : q ≤ 200000000 := by omega
      rw [← hq]
      clear hq hq4 hm
      unfold sibQ at c0 c1 c2 c3
      dsimp only at c0 c1 c2 c3
      generalize hT : markT (q + 3) = T at c3
      have i0 : (0 : Int) ≤ (j : Int) := by omega
      have i1 : (j : Int) < (n : Int) := by omega
      go_wp2_with fail
      refine wp_region_held_drew (S := fun w' => w'.cell? ⟨g, off + j * 4 + 3, none⟩ = some (.string T)) (by kernel_rfl) (by first | exact c3 | assumption | (rw [hb.cell (by exact hg)]; exact c3)) (fun hHeld => ?_)
      refine wpAnyH_take (i := 0) (v := ?_) rfl (by kernel_rfl) (by kernel_rfl) (by kernel_rfl) (fun _ _ _ h => h) (Or.inl ⟨by rfl, fun w hSw => by (try dsimp only at hSw); go_simp; (try with_reducible rfl)⟩) (by assumption) ?_
      try simp only [Act.put, List.setIfInBounds_toArray, List.set_cons_zero, List.set_cons_succ, List.getElem_toArray, List.getElem_cons_zero, List.getElem_cons_succ]
      refine wpAnyH_take (i := 1) (v := ?_) rfl (by kernel_rfl) (by kernel_rfl) (by kernel_rfl) (fun _ _ _ h => h) (Or.inl ⟨by rfl, fun w hSw => by (try dsimp only at hSw); go_simp; (try with_reducible rfl)⟩) (by assumption) ?_
      try simp only [Act.put, List.setIfInBounds_toArray, List.set_cons_zero, List.set_cons_succ, List.getElem_toArray, List.getElem_cons_zero, List.getElem_cons_succ]
      refine wpAnyH_take (i := 2) (v := ?_) rfl (by kernel_rfl) (by kernel_rfl) (by kernel_rfl) (fun _ _ _ h => h) (Or.inl ⟨by rfl, fun w hSw => by (try dsimp only at hSw); go_simp; (try with_reducible rfl)⟩) (by assumption) ?_
      try simp only [Act.put, List.setIfInBounds_toArray, List.set_cons_zero, List.set_cons_succ, List.getElem_toArray, List.getElem_cons_zero, List.getElem_cons_succ]
      refine wpAnyH_take (i := 3) (v := ?_) rfl (by kernel_rfl) (by kernel_rfl) (by kernel_rfl) (fun _ _ _ h => h) (Or.inl ⟨by rfl, fun w hSw => by (try dsimp only at hSw); go_simp; (try with_reducible rfl)⟩) (by assumption) ?_
      try simp only [Act.put, List.setIfInBounds_toArray, List.set_cons_zero, List.set_cons_succ, List.getElem_toArray, List.getElem_cons_zero, List.getElem_cons_succ]
      refine wpAnyH_take (i := 4) (v := ?_) rfl (by kernel_rfl) (by kernel_rfl) (by kernel_rfl) (fun _ _ _ h => h) (Or.inl ⟨by rfl, fun w hSw => by (try dsimp only at hSw); go_simp; (try with_reducible rfl)⟩) (by assumption) ?_
      try simp only [Act.put, List.setIfInBounds_toArray, List.set_cons_zero, List.set_cons_succ, List.getElem_toArray, List.getElem_cons_zero, List.getElem_cons_succ]
      refine wpAnyH_take (i := 5) (v := ?_) rfl (by kernel_rfl) (by kernel_rfl) (by kernel_rfl) (fun _ _ _ h => h) (Or.inl ⟨by rfl, fun w hSw => by (try dsimp only at hSw); go_simp; (try with_reducible rfl)⟩) (by assumption) ?_
      try simp only [Act.put, List.setIfInBounds_toArray, List.set_cons_zero, List.set_cons_succ, List.getElem_toArray, List.getElem_cons_zero, List.getElem_cons_succ]
      refine wpAnyH_ready (rs := [6]) (by kernel_rfl) (by simp) ?_
      refine AllReadyH.cons rfl (fun K hK => ?_) AllReadyH.nil
      go_simp
      go_at_call 89; refine (markText' _ (q + 3) (by omega) _ (by omega) (by omega)).mono ?_; rintro e w1 ⟨rfl, hb⟩; rw [hT]; have HV := Lib.hid (HB.out.drew.trans (hb.mono HB.out.size))
      go_wp2_with fail
      refine hK.out _ _ (by first | exact c3 | assumption | (rw [hb.cell (by exact hg)]; exact c3)) (fun hHeld => ?_)
      clear hK K
      try simp only [Act.put, List.setIfInBounds_toArray, List.set_cons_zero, List.set_cons_succ, List.getElem_toArray, List.getElem_cons_zero, List.getElem_cons_succ]
      refine wpAnyH_take (i := 7) (v := ?_) rfl (by kernel_rfl) (by kernel_rfl) (by kernel_rfl) (fun _ _ _ h => h) (Or.inl ⟨by rfl, fun w hSw => by (try dsimp only at hSw); go_simp; (try with_reducible rfl)⟩) (by assumption) ?_
      try simp only [Act.put, List.setIfInBounds_toArray, List.set_cons_zero, List.set_cons_succ, List.getElem_toArray, List.getElem_cons_zero, List.getElem_cons_succ]
      refine wpAnyH_done (by kernel_rfl) ?_ _
      go_wp2
      go_roundw
      case rel => exact ⟨j + 1, by omega, by go_num, by rw [HQ4.out], HV.out⟩
      case measure => go_light; simp [intOf]; omega
    · have hj2 : j = n := by omega
      have HJ := Lib.hid hj2
      clear hj2
      go_wp2
      go_ret
      exact ⟨ret_i64 (by rw [HJ.out]), HB.out⟩

/-- what markSet leaves -/
def MarkedSet (w : World) (lo mid hi : Nat) (a b : Option Addr) (k n m : Nat) (e : Ending) (w' : World) : Prop :=
  e = .returned (.int .i64 ((k + 2 * n + 4 * m : Nat) : Int)) ∧ OwnIn w' lo mid a (markL (k : Int) n) ∧ SOwnIn w' mid hi b (sibL (k + 2 * n) m) ∧ Within lo hi w w'
theorem Within.wide {lo hi lo' hi' : Nat} {a b : World} (h : Within lo' hi' a b) (h1 : lo ≤ lo') (h2 : hi' ≤ hi) : Within lo hi a b :=
  ⟨h.os, h.tape, h.output, h.size, fun i hi ho => h.block i hi (by omega)⟩
set_option maxRecDepth 100000 in
set_option maxHeartbeats 1000000 in
theorem markSet (lo mid hi : Nat) (a b : Option Addr) (cap cap' : Nat) (l : List (Int × Int)) (s : List Sib) (k : Nat) (w : World) (hl : l.length ≤ 1048576) (hs : s.length ≤ 1048576) (hk0 : 0 < k) (hk1 : k ≤ 90000000) (h1 : lo ≤ mid) (h2 : mid ≤ hi) (h3 : hi ≤ w.heap.size)
    (h : OwnIn w lo mid a l) (h' : SOwnIn w mid hi b s) :
    Calls Try.prog 25 #[.agg #[.slice a l.length cap, .slice b s.length cap'], .int .i64 (k : Int)] w (MarkedSet w lo mid hi a b k l.length s.length) := by
  have hb0 := Lib.hid (step_alloc w (.cells #[.slice a l.length cap, .slice b s.length cap'] 33))
  have H := Lib.hid (h.same (Same.of_below hb0.out (by omega)))
  have H' := Lib.hid (h'.same (Same.of_below hb0.out (by omega)))
  have X := Lib.hid (Cells.new w #[.slice a l.length cap, .slice b s.length cap'] 33)
  clear h h'
  go_enter Try.func25, Try.ntmps25
  go_wp2_with fail
  refine (markMarkS lo mid a cap l (k : Int) _ hl (by omega) (by omega) H.out).mono ?_
  rintro e w1 ⟨rfl, ho, hw⟩
  replace X := Lib.hid (X.out.within hw (by omega))
  replace H' := Lib.hid (H'.out.same (hw.same (by simp; omega) (by omega)))
  have O := Lib.hid ho
  have W1 := Lib.hid hw
  have hz := hw.size
  simp only [World.size_alloc] at hz
  clear ho hw H
  obtain ⟨x0, x1, _⟩ := X.out.c2
  obtain ⟨q, hq⟩ : ∃ q : Nat, q = k + 2 * l.length := ⟨_, rfl⟩
  have ek : (k : Int) + 2 * (l.length : Int) = (q : Int) := by omega
  rw [ek]
  clear ek
  have hq1 : 0 < q := by omega
  have hq2 : q ≤ 100000000 := by omega
  have HQ := Lib.hid hq
  clear hq
  go_wp2_with fail
  refine (markSibS mid hi b cap' s q _ hs hq1 hq2 H'.out).mono ?_
  rintro e w2 ⟨rfl, ho, hw⟩
  have O2 := Lib.hid (O.out.same (hw.same (by omega) (by omega)))
  have OS := Lib.hid ho
  have W2 := Lib.hid hw
  clear ho hw
  obtain ⟨r, hr⟩ : ∃ r : Nat, r = q + 4 * s.length := ⟨_, rfl⟩
  have HRr := Lib.hid hr
  rw [← hr]
  clear hr
  go_wp2
  go_ret
  have hq := HQ.out
  have hr := HRr.out
  subst hq
  refine ⟨ret_i64 (by omega), O2.out, OS.out, ?_⟩
  have hh : Within lo hi w (w.alloc (.cells #[.slice a l.length cap, .slice b s.length cap'] 33)) := ⟨rfl, rfl, rfl, by simp, fun j hj _ => Below.heap_alloc _ _ _ hj⟩
  exact (hh.trans (Within.wide W1.out (Nat.le_refl _) h2)).trans (Within.wide W2.out h1 (Nat.le_refl _))
set_option maxRecDepth 100000 in
set_option maxHeartbeats 1000000 in
theorem heldSet (a b : Option Addr) (cap cap' : Nat) (n m k : Nat) (w : World) (hn : n ≤ 1048576) (hm : m ≤ 1048576) (hk0 : 0 < k) (hk1 : k ≤ 90000000)
    (h : MarksAt w a (markL (k : Int) n)) (h' : SibsAt w b (sibL (k + 2 * n) m)) :
    Calls Try.prog 80 #[.agg #[.slice a n cap, .slice b m cap'], .int .i64 (k : Int)] w fun e w' => e = .returned (.int .i64 ((k + 2 * n + 4 * m : Nat) : Int)) ∧ Below w.heap.size w w' := by
  have hb0 := Lib.hid (step_alloc w (.cells #[.slice a n cap, .slice b m cap'] 33))
  have H := Lib.hid (h.mono hb0.out)
  have H' := Lib.hid (SibsAt.mono h' hb0.out)
  clear h h'
  obtain ⟨q, hq⟩ : ∃ q : Nat, q = k + 2 * n := ⟨_, rfl⟩
  have ek : (k : Int) + 2 * (n : Int) = (q : Int) := by omega
  have hq1 : 0 < q := by omega
  have hq2 : q ≤ 100000000 := by omega
  have hq3 : ¬ (q : Int) < 0 := by omega
  rw [← hq] at H'
  obtain ⟨r, hr⟩ : ∃ r : Nat, r = q + 4 * m := ⟨_, rfl⟩
  have HRr := Lib.hid (show ((k + 2 * n + 4 * m : Nat) : Int) = (r : Int) by omega)
  have hr3 : ¬ (r : Int) < 0 := by omega
  rw [HRr.out]
  clear hq
  go_enter Try.func80, Try.ntmps80
  go_wp2_with fail
  refine (heldMarkS a cap n (k : Int) _ hn (by omega) (by omega) H.out).mono ?_
  rintro e w1 ⟨rfl, rfl⟩
  rw [ek]
  clear ek
  go_wp2_with fail
  refine (heldSibS b cap' m q _ hm hq1 hq2 H'.out).mono ?_
  rintro e w2 ⟨rfl, hb⟩
  rw [← hr]
  clear hr
  have HB := Lib.hid (hb0.out.trans (hb.mono (by simp)))
  clear hb
  go_wp2
  go_ret
  exact ⟨rfl, HB.out⟩
end Go.Proofs.Ytloenigleamcoaa.Sb
