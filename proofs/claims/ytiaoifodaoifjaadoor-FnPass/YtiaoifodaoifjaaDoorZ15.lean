/- Parts of a law: SeenRead. Conditions: on sizes, as each says. -/
import Derived.Test.YtiaoifodaoifjaaDoorZ1
import Derived.OwnWalk
import Derived.Test.YtiaoifodaoifjaaDoorZ2
import Derived.Test.YtiaoifodaoifjaaDoorZ7
set_option linter.unusedSimpArgs false
set_option linter.unusedVariables false
namespace Go.Proofs.YtiaoifodaoifjaaDoor.Mk
open Go.RowKit Ge
theorem readNum_ok {s : ByteArray} {a n a' : Int} (hs : s.size ≤ maxLen) (h : readN s a = (n, a', 0)) (w : World) :
    Calls Tryd.prog 87 #[.string s, .int .i64 a] w fun e w' => e = .returned (.tuple #[.int .i64 n, .int .i64 a', .nilIface]) ∧ w = w' := by
  have := impl_readNum s hs a w
  rw [h] at this
  exact this
theorem readNum_bad {s : ByteArray} {a c : Int} (hs : s.size ≤ maxLen) (hc : c ≠ 0) (h : readN s a = (0, 0, c)) (w : World) :
    Calls Tryd.prog 87 #[.string s, .int .i64 a] w fun e w' => e = .returned (.tuple #[.int .i64 0, .int .i64 0, .iface 134 (.agg #[.int .i64 c])]) ∧ w = w' := by
  have := impl_readNum s hs a w
  rw [h] at this
  unfold tup errV at this
  simp only [if_neg hc] at this
  exact this
set_option maxRecDepth 100000 in
theorem readMark_ok {s : ByteArray} {a x a1 y a2 : Int} (hs : s.size ≤ maxLen) (h1 : readN s a = (x, a1, 0)) (h2 : readN s a1 = (y, a2, 0)) (w : World) :
    Calls Tryd.prog 89 #[.string s, .int .i64 a] w fun e w' => e = .returned (.tuple #[.agg #[.int .i64 x, .int .i64 y], .int .i64 a2, .nilIface]) ∧ Below w.heap.size w w' := by
  have H1 := jj (readNum_ok hs h1)
  have H2 := jj (readNum_ok hs h2)
  clear h1 h2
  go_enter Tryd.func89, Tryd.ntmps89
  go_wp2_with fail
  refine (H1.out _).mono ?_
  rintro e w1 ⟨rfl, rfl⟩
  go_wp2_with fail
  refine (H2.out _).mono ?_
  rintro e w1 ⟨rfl, rfl⟩
  go_wp2
  exact bodyPost_ret (v := .tuple #[.agg #[.int .i64 x, .int .i64 y], .int .i64 a2, .nilIface]) (by simp [results, Tryd.results89, go_sem]) rfl ⟨rfl, (Below.refl _ _).alloc (Nat.le_refl _) _⟩
set_option maxRecDepth 100000 in
theorem readMark_bad1 {s : ByteArray} {a c : Int} (hs : s.size ≤ maxLen) (hc : c ≠ 0) (h1 : readN s a = (0, 0, c)) (w : World) :
    Calls Tryd.prog 89 #[.string s, .int .i64 a] w fun e w' => e = .returned (.tuple #[.agg #[.int .i64 0, .int .i64 0], .int .i64 0, .iface 134 (.agg #[.int .i64 c])]) ∧ Below w.heap.size w w' := by
  have H1 := jj (readNum_bad hs hc h1)
  clear h1
  go_enter Tryd.func89, Tryd.ntmps89
  go_wp2_with fail
  refine (H1.out _).mono ?_
  rintro e w1 ⟨rfl, rfl⟩
  go_wp2
  exact bodyPost_ret (v := .tuple #[.agg #[.int .i64 0, .int .i64 0], .int .i64 0, .iface 134 (.agg #[.int .i64 c])]) (by simp [results, Tryd.results89, go_sem]) rfl ⟨rfl, (Below.refl _ _).alloc (Nat.le_refl _) _⟩
set_option maxRecDepth 100000 in
theorem readMark_bad2 {s : ByteArray} {a x a1 c : Int} (hs : s.size ≤ maxLen) (hc : c ≠ 0) (h1 : readN s a = (x, a1, 0)) (h2 : readN s a1 = (0, 0, c)) (w : World) :
    Calls Tryd.prog 89 #[.string s, .int .i64 a] w fun e w' => e = .returned (.tuple #[.agg #[.int .i64 0, .int .i64 0], .int .i64 0, .iface 134 (.agg #[.int .i64 c])]) ∧ Below w.heap.size w w' := by
  have H1 := jj (readNum_ok hs h1)
  have H2 := jj (readNum_bad hs hc h2)
  clear h1 h2
  go_enter Tryd.func89, Tryd.ntmps89
  go_wp2_with fail
  refine (H1.out _).mono ?_
  rintro e w1 ⟨rfl, rfl⟩
  go_wp2_with fail
  refine (H2.out _).mono ?_
  rintro e w1 ⟨rfl, rfl⟩
  go_wp2
  exact bodyPost_ret (v := .tuple #[.agg #[.int .i64 0, .int .i64 0], .int .i64 0, .iface 134 (.agg #[.int .i64 c])]) (by simp [results, Tryd.results89, go_sem]) rfl ⟨rfl, (Below.refl _ _).alloc (Nat.le_refl _) _⟩
def ReadSeen (w : World) (o : Option (List (Int × Int) × Int)) (e : Ending) (w' : World) : Prop :=
  Below w.heap.size w w' ∧ ((∃ l at_ a cap, o = some (l, at_) ∧ e = .returned (.tuple #[.slice a (List.length l) cap, .int .i64 at_, .nilIface]) ∧ OwnIn w' w.heap.size w'.heap.size a l) ∨
    (o = none ∧ ∃ c, e = .returned (.tuple #[.slice none 0 0, .int .i64 0, .iface 134 (.agg #[.int .i64 c])])))
theorem own_at {w : World} {g : Nat} {l : List (Int × Int)} (B : Nat) (h : Own w g l) (hg : B ≤ g) : OwnIn w B w.heap.size (some ⟨g, 0, none⟩) l := by
  by_cases h0 : l = []
  · exact .inl h0
  · exact .inr ⟨g, rfl, hg, h.lt (List.length_pos_iff.2 h0), h⟩
theorem parse_bad {s : ByteArray} {a : Int} (h : (readN s a).2.2 ≠ 0) : parse s a = none := if_neg fun c => h c.1
theorem parse_range {s : ByteArray} {a c a1 : Int} (h : readN s a = (c, a1, 0)) (hc : ¬ (0 ≤ c ∧ c ≤ 5)) : parse s a = none := by unfold parse; rw [h]; exact if_neg fun d => hc d.2
theorem parse_go {s : ByteArray} {a a1 : Int} {n : Nat} (h : readN s a = ((n : Int), a1, 0)) (hn : n ≤ 5) : parse s a = readMarks s n a1 := by
  unfold parse; rw [h]; simp only; rw [if_pos ⟨trivial, by omega, by omega⟩]; simp
theorem fail_of {w w' : World} {o : Option (List (Int × Int) × Int)} {c : Int} (ho : o = none) (hb : Below w.heap.size w w') :
    ReadSeen w o (.returned (.tuple #[.slice none 0 0, .int .i64 0, .iface 134 (.agg #[.int .i64 c])])) w' := ⟨hb, .inr ⟨ho, c, rfl⟩⟩
set_option maxRecDepth 100000 in
set_option maxHeartbeats 2000000 in
theorem impl_readMarks (s : ByteArray) (a : Int) (w : World) (hs : s.size ≤ maxLen) : Calls Tryd.prog 88 #[.string s, .int .i64 a, .int .i64 5, .func (.func 89) #[] #[]] w (ReadSeen w (parse s a)) := by
  by_cases hc : (readN s a).2.2 ≠ 0
  · obtain ⟨c, hc0, hr⟩ := readN_bad s a hc
    have HN := jj (parse_bad hc)
    have H1 := jj (readNum_bad hs hc0 hr)
    clear hc hr
    go_enter Tryd.func88, Tryd.ntmps88
    go_wp2_with fail
    refine (H1.out _).mono ?_
    rintro e w1 ⟨rfl, rfl⟩
    go_wp2
    all_goals go_ret3
    all_goals exact fail_of HN.out (Below.refl _ _)
  obtain ⟨c, a1, z, hr⟩ : ∃ c a1 z, readN s a = (c, a1, z) := ⟨_, _, _, rfl⟩
  obtain rfl : z = 0 := by rw [hr] at hc; simpa using hc
  have H1 := jj (readNum_ok hs hr)
  clear hc
  by_cases hrange : ¬ (0 ≤ c ∧ c ≤ 5)
  · have HN := jj (parse_range hr hrange)
    clear hr
    have h2 : c < 0 ∨ (0 ≤ c ∧ 5 < c) := by omega
    rcases h2 with h2 | ⟨h2, h3⟩
    all_goals
      go_enter Tryd.func88, Tryd.ntmps88
      go_wp2_with fail
      refine (H1.out _).mono ?_
      rintro e w1 ⟨rfl, rfl⟩
      go_wp2
      all_goals go_ret3
      all_goals exact fail_of HN.out (Below.refl _ _)
  obtain ⟨n, rfl⟩ : ∃ n : Nat, c = n := ⟨c.toNat, by omega⟩
  have hn : n ≤ 5 := by omega
  have HP := jj (parse_go hr hn)
  clear hrange hr
  have d1 : decide ((n : Int) < 0) = false := by simp
  have d2 : decide (5 < (n : Int)) = false := by simp; omega
  have hmk := run_make_marks n (by omega)
  go_enter Tryd.func88, Tryd.ntmps88
  go_wp2_with fail
  refine (H1.out _).mono ?_
  rintro e w1 ⟨rfl, rfl⟩
  go_wp2
  clear hmk d1 d2
  go_loopw [1, 38] (fun z i wr => ∃ (k : Nat) (b : Int) (l' : List (Int × Int)), k ≤ n ∧ i = .int .i64 k ∧ z = .int .i64 b ∧ l'.length = n ∧ parse s a = addL (l'.take k) (readMarks s (n - k) b) ∧ Own wr w.heap.size l' ∧ Below w.heap.size w wr) (fun _ i _ => n - (intOf i).toNat)
  case atStart => exact ⟨0, a1, List.replicate n (0, 0), Nat.zero_le _, rfl, rfl, by simp, by rw [HP.out, List.take_zero, addL_nil]; rfl, Own.new w n, (Below.refl _ _).alloc (Nat.le_refl _) _⟩
  case round =>
    obtain ⟨k, b, l', hk, rfl, rfl, hl', hq, ho, hbel⟩ := hrel
    have HL := jj hl'
    have HQ := jj hq
    have HO := jj ho
    have HB := jj hbel
    clear hl' hq ho hbel
    by_cases hlt : k < n
    · have hnk : n - k = (n - (k + 1)) + 1 := by omega
      have HK := jj (show k < l'.length by rw [HL.out]; exact hlt)
      have hz2 := HO.out.lt (by have := HK.out; omega)
      by_cases hb1 : (readN s b).2.2 ≠ 0
      · have HN := jj (show parse s a = none by rw [HQ.out, hnk]; exact readMarks_bad1 hb1 _)
        obtain ⟨c, hc0, hr⟩ := readN_bad s b hb1
        have HM := jj (readMark_bad1 hs hc0 hr)
        clear hb1 hr hnk
        go_wp2_with fail
        refine (HM.out _).mono ?_
        rintro e w2 ⟨rfl, hb⟩
        have hq := jj (HO.out.same (hb.block _ hz2))
        have c2 := hq.out.cell0 k HK.out
        have c3 := hq.out.cell1 k HK.out
        have f2 := hq.out.free (k * 2)
        have f3 := hq.out.free (k * 2 + 1)
        have HB2 := jj (HB.out.trans (hb.mono HB.out.size))
        clear hb
        go_wp2
        all_goals go_ret3
        all_goals exact fail_of HN.out ((HB2.out.setCell (Nat.le_refl _) _).setCell (Nat.le_refl _) _)
      obtain ⟨x, b1, z, hr⟩ : ∃ x b1 z, readN s b = (x, b1, z) := ⟨_, _, _, rfl⟩
      obtain rfl : z = 0 := by rw [hr] at hb1; simpa using hb1
      clear hb1
      by_cases hb2 : (readN s b1).2.2 ≠ 0
      · have HN := jj (show parse s a = none by rw [HQ.out, hnk]; exact readMarks_bad2 hr hb2 _)
        obtain ⟨c, hc0, hr2⟩ := readN_bad s b1 hb2
        have HM := jj (readMark_bad2 hs hc0 hr hr2)
        clear hb2 hr hr2 hnk
        go_wp2_with fail
        refine (HM.out _).mono ?_
        rintro e w2 ⟨rfl, hb⟩
        have hq := jj (HO.out.same (hb.block _ hz2))
        have c2 := hq.out.cell0 k HK.out
        have c3 := hq.out.cell1 k HK.out
        have f2 := hq.out.free (k * 2)
        have f3 := hq.out.free (k * 2 + 1)
        have HB2 := jj (HB.out.trans (hb.mono HB.out.size))
        clear hb
        go_wp2
        all_goals go_ret3
        all_goals exact fail_of HN.out ((HB2.out.setCell (Nat.le_refl _) _).setCell (Nat.le_refl _) _)
      obtain ⟨y, b2, z, hr2⟩ : ∃ y b2 z, readN s b1 = (y, b2, z) := ⟨_, _, _, rfl⟩
      obtain rfl : z = 0 := by rw [hr2] at hb2; simpa using hb2
      have HM := jj (readMark_ok hs hr hr2)
      have HS := jj (show parse s a = addL (l'.take k ++ [(x, y)]) (readMarks s (n - (k + 1)) b2) by rw [HQ.out, hnk]; exact readMarks_step hr hr2 _)
      clear hb2 hr hr2 hnk
      go_wp2_with fail
      refine (HM.out _).mono ?_
      rintro e w2 ⟨rfl, hb⟩
      have hq := jj (HO.out.same (hb.block _ hz2))
      have c2 := hq.out.cell0 k HK.out
      have c3 := hq.out.cell1 k HK.out
      have f2 := hq.out.free (k * 2)
      have f3 := hq.out.free (k * 2 + 1)
      have HB2 := jj (HB.out.trans (hb.mono HB.out.size))
      clear hb
      go_wp2
      go_roundw
      case rel =>
        refine ⟨k + 1, b2, l'.set k (x, y), by omega, by go_num, rfl, by rw [List.length_set]; exact HL.out, ?_, hq.out.set k HK.out x y, (HB2.out.setCell (Nat.le_refl _) _).setCell (Nat.le_refl _) _⟩
        rw [List.take_succ_eq_append_getElem (by rw [List.length_set]; exact HK.out), List.take_set, List.set_eq_of_length_le (by rw [List.length_take]; omega), List.getElem_set_self]
        exact HS.out
      case measure => go_light; simp [intOf]; omega
    · have hkn : k = n := by omega
      subst hkn
      have hp : parse s a = some (l', b) := by
        rw [HQ.out, List.take_of_length_le (by rw [HL.out]; exact Nat.le_refl _), Nat.sub_self]
        simp [readMarks, addL]
      have HP2 := jj hp
      clear hp
      obtain rfl : k = l'.length := HL.out.symm
      clear HL
      have HO2 := jj (own_at w.heap.size HO.out (Nat.le_refl _))
      go_wp2
      all_goals go_ret3
      all_goals exact ⟨HB.out, .inl ⟨l', b, _, _, HP2.out, rfl, HO2.out⟩⟩
theorem seenAt_no {s : ByteArray} {a : Int} (h : parse s a = none) : seenAt s a = none := seenAt_none h
theorem parse_len {s : ByteArray} {a : Int} {l : List (Int × Int)} {e : Int} (h : parse s a = some (l, e)) : l.length ≤ 5 := by
  have key : ∀ (n : Nat) (b : Int) (l : List (Int × Int)) (e : Int), readMarks s n b = some (l, e) → l.length = n := by
    intro n
    induction n with
    | zero => intro b l e h; simp [readMarks] at h; simp [← h.1]
    | succ n ih =>
      intro b l e h
      by_cases h1 : (readN s b).2.2 ≠ 0
      · have := readMarks_bad1 h1 (k := n) []
        simp only [addL_nil] at this
        rw [this] at h; cases h
      obtain ⟨x, b1, z, hr⟩ : ∃ x b1 z, readN s b = (x, b1, z) := ⟨_, _, _, rfl⟩
      obtain rfl : z = 0 := by rw [hr] at h1; simpa using h1
      by_cases h2 : (readN s b1).2.2 ≠ 0
      · have := readMarks_bad2 hr h2 (k := n) []
        simp only [addL_nil] at this
        rw [this] at h; cases h
      obtain ⟨y, b2, z, hr2⟩ : ∃ y b2 z, readN s b1 = (y, b2, z) := ⟨_, _, _, rfl⟩
      obtain rfl : z = 0 := by rw [hr2] at h2; simpa using h2
      have := readMarks_step hr hr2 (k := n) []
      simp only [addL_nil] at this
      rw [this] at h
      unfold addL at h
      cases hm : readMarks s n b2 with
      | none => rw [hm] at h; cases h
      | some p =>
        rw [hm] at h
        simp at h
        have := ih b2 p.1 p.2 hm
        rw [← h.1]; simp [this]
  unfold parse at h
  split at h
  · rename_i hc
    have := key _ _ _ _ h
    omega
  · cases h
set_option maxRecDepth 100000 in
set_option maxHeartbeats 2000000 in
theorem impl_readSeen (s : ByteArray) (a : Int) (w : World) (hs : s.size ≤ maxLen) : Calls Tryd.prog 84 #[.string s, .int .i64 a] w (ReadSeen w (seenAt s a)) := by
  go_enter Tryd.func84, Tryd.ntmps84
  go_wp2_with fail
  refine (impl_readMarks s a _ hs).mono ?_
  rintro e w1 ⟨hb, ⟨l, b, qa, cap, hp, rfl, ho⟩ | ⟨hp, c, rfl⟩⟩
  · have HB := jj hb
    have HO := jj ho
    have h5 := parse_len hp
    have HP2 := jj hp
    clear hb ho hp
    cases hr : rightB l
    · have HN := jj (seenAt_wrong HP2.out hr)
      go_wp2_with fail
      refine (seenRight _ _ l _ (by unfold maxLen; omega) HO.out.at_).mono ?_
      rintro e w2 ⟨rfl, hb⟩
      rw [hr]
      have HB2 := jj (HB.out.trans (hb.mono HB.out.size))
      clear hb
      go_wp2
      all_goals go_ret3
      all_goals exact fail_of HN.out HB2.out
    · have HN := jj (seenAt_some HP2.out hr)
      go_wp2_with fail
      refine (seenRight _ _ l _ (by unfold maxLen; omega) HO.out.at_).mono ?_
      rintro e w2 ⟨rfl, hb⟩
      rw [hr]
      have HB2 := jj (HB.out.trans (hb.mono HB.out.size))
      have HO2 := jj ((HO.out.same (Same.of_below hb (Nat.le_refl _))).wide (Nat.le_refl _) hb.size)
      clear hb
      go_wp2
      all_goals go_ret3
      all_goals exact ⟨HB2.out, .inl ⟨l, b, _, _, HN.out, rfl, HO2.out⟩⟩
  · have HB := jj hb
    have HN := jj (seenAt_no hp)
    clear hb hp
    go_wp2
    all_goals go_ret3
    all_goals exact fail_of HN.out HB.out
end Go.Proofs.YtiaoifodaoifjaaDoor.Mk
