/- Contracts of the laws' helpers on Sibs and Sets: szSib, szSibS, szSet, toSib, toSibS, toSet, eqSib, eqSibS, eqSet. Condition: at most 1048576 marks and Sibs. -/
import Derived.Test.YtloenigleamcoaaSib
import Derived.Test.YtloenigleamcoaaMarkLaw
set_option linter.unusedSimpArgs false
set_option linter.unusedVariables false
namespace Go.Proofs.Ytloenigleamcoaa.Sb
open Go.RowKit Go.Proofs.Ytloenigleamcoaa.Mk Go.Proofs.Ytloenigleamcoaa.Rw

theorem szSib (x : Sib) (left : Int) (w : World) (hd : x.2.2.size ≤ maxLen) (h0 : 0 ≤ left) (h1 : left ≤ 1048576) :
    Calls Try.prog 81 #[sv x, .int .i64 left] w fun e w' => e = .returned (.int .i64 (if left < x.2.2.size then -1 else left - x.2.2.size)) ∧ Below w.heap.size w w' := by
  obtain ⟨⟨n, m⟩, g, d⟩ := x
  unfold sv
  unfold maxLen at hd
  dsimp only at hd ⊢
  by_cases h : left < (d.size : Int)
  · rw [if_pos h]
    have h' : left - (d.size : Int) < 0 := by omega
    go_enter Try.func81, Try.ntmps81
    go_wp2
    all_goals go_ret
    all_goals exact ⟨rfl, step_alloc w _⟩
  · rw [if_neg h]
    have h' : ¬ left - (d.size : Int) < 0 := by omega
    go_enter Try.func81, Try.ntmps81
    go_wp2
    all_goals go_ret
    all_goals exact ⟨rfl, step_alloc w _⟩

/-- what a measuring of l leaves -/
def Sized (w : World) (left : Int) (n : Nat) (e : Ending) (w' : World) : Prop :=
  ∃ r : Int, e = .returned (.int .i64 r) ∧ (r = -1 ∨ (0 ≤ r ∧ r ≤ left ∧ (n : Int) ≤ left)) ∧ Below w.heap.size w w'
def SmallData (l : List Sib) : Prop := ∀ x ∈ l, x.2.2.size ≤ maxLen

set_option maxRecDepth 100000 in
set_option maxHeartbeats 1000000 in
theorem szSibS (a : Option Addr) (cap : Nat) (l : List Sib) (left : Int) (w : World) (hl : l.length ≤ maxLen) (hd : SmallData l) (h0 : 0 ≤ left) (h1 : left ≤ 1048576) (h : SibsAt w a l) :
    Calls Try.prog 46 #[.slice a l.length cap, .int .i64 left] w (Sized w left l.length) := by
  have H := Lib.hid h
  have HD := Lib.hid hd
  clear h hd
  unfold maxLen at hl
  by_cases hlt : left < (l.length : Int)
  · have h' : left - (l.length : Int) < 0 := by omega
    go_enter Try.func46, Try.ntmps46
    go_wp2
    all_goals go_ret
    all_goals exact ⟨_, rfl, .inl rfl, Below.refl _ _⟩
  · have h' : ¬ left - (l.length : Int) < 0 := by omega
    go_enter Try.func46, Try.ntmps46
    go_wp2
    go_loopw [1, 5] (fun z i wr => ∃ (k : Nat) (r : Int), k ≤ l.length ∧ i = .int .i64 k ∧ z = .int .i64 r ∧ 0 ≤ r ∧ r ≤ left ∧ Below w.heap.size w wr) (fun _ i _ => l.length - (intOf i).toNat)
    case atStart => exact ⟨0, left - l.length, Nat.zero_le _, rfl, rfl, by omega, by omega, Below.refl _ _⟩
    case round =>
      obtain ⟨k, r, hk, rfl, rfl, hr0, hr1, hbel⟩ := hrel
      have HB := Lib.hid hbel
      clear hbel
      by_cases hkl : k < l.length
      · obtain ⟨g, off, rfl, hg, c0, c1, c2, c3⟩ := (H.out.mono HB.out).cells hkl
        have hsz := HD.out l[k] (List.getElem_mem hkl)
        generalize l[k] = x at c0 c1 c2 c3 hsz
        obtain ⟨⟨n, m⟩, gn, d⟩ := x
        dsimp only at c0 c1 c2 c3 hsz
        by_cases hs : r < (d.size : Int)
        · go_wp2_with (go_at_call 81; refine (szSib ((n, m), gn, d) r _ hsz hr0 (by omega)).mono ?_; rintro e w' ⟨rfl, hb⟩; rw [if_pos hs])
          go_ret
          exact ⟨_, rfl, .inl rfl, HB.out.trans (hb.mono HB.out.size)⟩
        · have hs2 : ¬ r - (d.size : Int) < 0 := by omega
          go_wp2_with (go_at_call 81; refine (szSib ((n, m), gn, d) r _ hsz hr0 (by omega)).mono ?_; rintro e w' ⟨rfl, hb⟩; rw [if_neg hs]; have HQ := Lib.hid (HB.out.trans (hb.mono HB.out.size)); clear hb)
          go_roundw
          case rel => exact ⟨k + 1, r - d.size, by omega, by go_num, rfl, by omega, by omega, HQ.out⟩
          case measure => go_light; simp [intOf]; omega
      · go_wp2
        go_ret
        exact ⟨_, rfl, .inr ⟨hr0, hr1, by omega⟩, HB.out⟩

theorem toSib (x : Sib) (w : World) : Calls Try.prog 84 #[sv x] w fun e w' => e = .returned (sv x) ∧ Below w.heap.size w w' := by
  obtain ⟨⟨n, m⟩, g, d⟩ := x
  unfold sv
  dsimp only
  go_enter Try.func84, Try.ntmps84
  go_wp2_with fail
  have hb0 := Lib.hid ((((Below.refl w.heap.size w).alloc (Nat.le_refl _) (.cells #[.int .i64 n, .int .i64 m, .bool g, .string d] 127)).alloc (by simp) (.cells #[.int .i64 0, .int .i64 0, .bool false, .string ByteArray.empty] 97)).alloc (by simp; omega) (.cells #[.int .i64 0, .int .i64 0, .bool false, .string ByteArray.empty] 97))
  refine (toMark (n, m) _).mono ?_
  rintro e w1 ⟨rfl, hb⟩
  unfold mv
  obtain ⟨hc, hf⟩ := bcell hb
  have HB := Lib.hid (hb0.out.trans (hb.mono (by simp; omega)))
  clear hb
  go_wp2
  refine bodyPost_ret (v := .agg #[.int .i64 n, .int .i64 m, .bool g, .string d]) (by simp [results, Try.results84, go_sem, hc]) rfl ⟨rfl, ?_⟩
  repeat (refine Below.setCell ?_ (by simp <;> omega) _)
  exact HB.out

set_option maxRecDepth 100000 in
set_option maxHeartbeats 1000000 in
theorem toSibS (a : Option Addr) (cap : Nat) (l : List Sib) (w : World) (hl : l.length ≤ 1048576) (h : SibsAt w a l) :
    Calls Try.prog 49 #[.slice a l.length cap] w (SGives w l) := by
  have H := Lib.hid h
  clear h
  have hmk := run_make_sibs l.length hl
  go_enter Try.func49, Try.ntmps49
  go_wp2
  clear hmk
  go_loopw [4] (fun i wr => ∃ (k : Nat) (l' : List Sib), k ≤ l.length ∧ i = .int .i64 k ∧ l'.length = l.length ∧ l'.take k = l.take k ∧ SOwn wr w.heap.size l' ∧ Below w.heap.size w wr) (fun i _ => l.length - (intOf i).toNat)
  case atStart => exact ⟨0, List.replicate l.length z0, Nat.zero_le _, rfl, by simp, by simp, SOwn.new w _, (Below.refl _ _).alloc (Nat.le_refl _) _⟩
  case round =>
    obtain ⟨k, l', hk, rfl, hl', ht, ho, hbel⟩ := hrel
    have HL := Lib.hid hl'
    have HT := Lib.hid ht
    have HO := Lib.hid ho
    have HB := Lib.hid hbel
    clear hl' ht ho hbel
    by_cases hlt : k < l.length
    · obtain ⟨g, off, rfl, hg, c0, c1, c2, c3⟩ := (H.out.mono HB.out).cells hlt
      have HS := Lib.hid (show l.take (k + 1) = l.take k ++ [l[k]] from List.take_succ_eq_append_getElem hlt)
      generalize l[k] = x at c0 c1 c2 c3 HS
      obtain ⟨⟨n, m⟩, gn, d⟩ := x
      dsimp only at c0 c1 c2 c3
      have hz2 := HO.out.lt (by decide) (by rw [HL.out]; omega)
      have HK := Lib.hid (show k < l'.length by rw [HL.out]; exact hlt)
      go_wp2_with ((go_at_call 84; refine (toSib ((n, m), gn, d) _).mono ?_; rintro e w' ⟨rfl, hb⟩; unfold sv; dsimp only; have hq := Lib.hid (HO.out.same (hb.block _ hz2)); obtain ⟨d0, d1, d2, d3⟩ := SOwn.cells hq.out HK.out; have f0 := hq.out.free (k * 4); have f1 := hq.out.free (k * 4 + 1); have f2 := hq.out.free (k * 4 + 2); have f3 := hq.out.free (k * 4 + 3); have HQ := Lib.hid (HB.out.trans (hb.mono HB.out.size)); clear hb))
      go_roundw
      case rel =>
        refine ⟨k + 1, l'.set k ((n, m), gn, d), by omega, by go_num, by rw [List.length_set]; exact HL.out, ?_, SOwn.set hq.out k HK.out ((n, m), gn, d), (((HQ.out.setCell (Nat.le_refl _) _).setCell (Nat.le_refl _) _).setCell (Nat.le_refl _) _).setCell (Nat.le_refl _) _⟩
        rw [List.take_succ_eq_append_getElem (by rw [List.length_set]; exact HK.out), List.take_set, List.set_eq_of_length_le (by rw [List.length_take]; omega), HT.out, HS.out, List.getElem_set_self]
      case measure => go_light; simp [intOf]; omega
    · have he : l' = l := by
        have h1 := HT.out
        rwa [List.take_of_length_le (by rw [HL.out]; omega), List.take_of_length_le (by omega)] at h1
      have HE := Lib.hid he
      clear he
      go_wp2
      go_ret
      refine ⟨_, _, rfl, ?_, HB.out⟩
      by_cases h0 : l = []
      · exact .inl h0
      · have ho := HO.out
        rw [HE.out] at ho
        exact .inr ⟨_, rfl, Nat.le_refl _, ho.lt (by decide) (List.length_pos_iff.2 h0), ho⟩

theorem eqSib (x : Sib) (w : World) : Calls Try.prog 88 #[sv x, sv x] w fun e w' => e = .returned (.bool true) ∧ Below w.heap.size w w' := by
  obtain ⟨⟨n, m⟩, g, d⟩ := x
  unfold sv
  dsimp only
  have hb0 := Lib.hid (((Below.refl w.heap.size w).alloc (Nat.le_refl _) (.cells #[.int .i64 n, .int .i64 m, .bool g, .string d] 97)).alloc (by simp) (.cells #[.int .i64 n, .int .i64 m, .bool g, .string d] 97))
  go_enter Try.func88, Try.ntmps88
  go_wp2_with fail
  refine (eqMark (n, m) (n, m) _).mono ?_
  rintro e w1 ⟨rfl, hb⟩
  rw [decide_eq_true rfl]
  obtain ⟨hc, hf⟩ := bcell hb
  have HB := Lib.hid (hb0.out.trans (hb.mono (by simp; omega)))
  clear hb
  go_wp2
  all_goals go_ret
  all_goals exact ⟨rfl, HB.out⟩

set_option maxRecDepth 100000 in
set_option maxHeartbeats 1000000 in
theorem eqSibS (a b : Option Addr) (cap cap' : Nat) (l : List Sib) (w : World) (hl : l.length ≤ maxLen) (h : SibsAt w a l) (h' : SibsAt w b l) :
    Calls Try.prog 54 #[.slice a l.length cap, .slice b l.length cap'] w fun e w' => e = .returned (.bool true) ∧ Below w.heap.size w w' := by
  have H := Lib.hid h
  have H' := Lib.hid h'
  clear h h'
  unfold maxLen at hl
  go_enter Try.func54, Try.ntmps54
  go_wp2
  go_loopw [5] (fun i wr => ∃ (k : Nat), k ≤ l.length ∧ i = .int .i64 k ∧ Below w.heap.size w wr) (fun i _ => l.length - (intOf i).toNat)
  case atStart => exact ⟨0, Nat.zero_le _, rfl, Below.refl _ _⟩
  case round =>
    obtain ⟨k, hk, rfl, hbel⟩ := hrel
    have HB := Lib.hid hbel
    clear hbel
    by_cases hlt : k < l.length
    · obtain ⟨g, off, rfl, hg, c0, c1, c2, c3⟩ := (H.out.mono HB.out).cells hlt
      obtain ⟨g', off', rfl, hg', c0', c1', c2', c3'⟩ := (H'.out.mono HB.out).cells hlt
      generalize l[k] = x at c0 c1 c2 c3 c0' c1' c2' c3'
      obtain ⟨⟨n, m⟩, gn, d⟩ := x
      dsimp only at c0 c1 c2 c3 c0' c1' c2' c3'
      have i0 : (0 : Int) ≤ (k : Int) := by omega
      have i1 : (k : Int) < (l.length : Int) := by omega
      go_wp2_with fail
      go_region_held3 (fun w' => w'.cell? ⟨g, off + k * 4, none⟩ = some (.int .i64 n) ∧ w'.cell? ⟨g, off + k * 4 + 1, none⟩ = some (.int .i64 m) ∧ w'.cell? ⟨g, off + k * 4 + 2, none⟩ = some (.bool gn) ∧ w'.cell? ⟨g, off + k * 4 + 3, none⟩ = some (.string d) ∧ w'.cell? ⟨g', off' + k * 4, none⟩ = some (.int .i64 n) ∧ w'.cell? ⟨g', off' + k * 4 + 1, none⟩ = some (.int .i64 m) ∧ w'.cell? ⟨g', off' + k * 4 + 2, none⟩ = some (.bool gn) ∧ w'.cell? ⟨g', off' + k * 4 + 3, none⟩ = some (.string d)) (first | go_keep | (go_split_ands; refine ⟨?_, ?_, ?_, ?_, ?_, ?_, ?_, ?_⟩ <;> (rw [hb.cell (by assumption)]; assumption)))
        ((go_at_call 88; refine (eqSib ((n, m), gn, d) _).mono ?_; rintro e w' ⟨rfl, hb⟩))
      have HQ := Lib.hid (HB.out.drew.trans (hb.mono HB.out.size))
      clear hb
      go_wp2
      go_roundw
      case rel => exact ⟨k + 1, by omega, by go_num, HQ.out⟩
      case measure => go_light; simp [intOf]; omega
    · go_wp2
      go_ret
      exact ⟨rfl, HB.out⟩
end Go.Proofs.Ytloenigleamcoaa.Sb
