/- The draws of the law of version vectors. What is drawn is not told, only its range. Condition: the code has at most 1048576 bytes. -/
import Derived.Test.YtflhiopdfkggdaaSeenDraw3
set_option linter.unusedSimpArgs false
set_option linter.unusedVariables false
namespace Go.Proofs.Ytflhiopdfkggdaa.Mk
open Go.RowKit Dr

theorem bw {w0 w w' : World} {lo hi : Nat} (h : Below w0.heap.size w0 w) (hw : Within lo hi w w') (hl : w0.heap.size ≤ lo) : Below w0.heap.size w0 w' := h.trans (hw.below hl h.size)
theorem own_src {w w' : World} {lo g : Nat} {a : Option Addr} {l : List (Int × Int)} (h : OwnIn w lo w.heap.size a l) (hw : Within g (g + 1) w w') (hg : g < lo) : OwnIn w' lo w'.heap.size a l :=
  (h.same (hw.same (Nat.le_refl _) (Or.inr (by omega)))).wide (Nat.le_refl _) hw.size
theorem bytesV_size (l : List (Int × Int)) : (bytesV l).size ≤ 1000 := by
  cases h : rightB l
  · rw [bytesV_no h]; show 0 ≤ _; omega
  · rw [bytesV_yes h]
    have hle := flat_length_le l (right_dot h)
    have h5 := right_len h
    have h2 := Nu.enc_len10 (Nu.fold l.length) (Nu.fold_lt _ (by omega))
    show (seenB l).toArray.size ≤ 1000
    unfold seenB
    rw [List.size_toArray, List.length_append]
    omega
/-- a code that came in -/
def Code (w : World) (a : Option Addr) (len : Nat) : Prop := len ≤ 1048576 ∧ Bytes8 w w.heap.size a len
/-- what one drawn slice leaves -/
def GotOne (w : World) (e : Ending) (w' : World) : Prop := ∃ (l : List (Int × Int)) (a : Option Addr) (cap : Nat), l.length ≤ 6 ∧ e = .returned (.slice a l.length cap) ∧ MarksAt w' a l ∧ Below w.heap.size w w'
def GotTwo (w : World) (e : Ending) (w' : World) : Prop := ∃ (l l' : List (Int × Int)) (a a' : Option Addr) (cap cap' : Nat), l.length ≤ 6 ∧ l'.length ≤ 6 ∧ e = .returned (.tuple #[.slice a l.length cap, .slice a' l'.length cap']) ∧ MarksAt w' a l ∧ MarksAt w' a' l' ∧ Below w.heap.size w w'
def GotNode (w : World) (e : Ending) (w' : World) : Prop := ∃ (l : List (Int × Int)) (a : Option Addr) (cap n : Nat), l.length ≤ 6 ∧ n < 7 ∧ e = .returned (.tuple #[.slice a l.length cap, .int .i64 (n : Int)]) ∧ MarksAt w' a l ∧ Below w.heap.size w w'
def GotDot (w : World) (e : Ending) (w' : World) : Prop := ∃ (l : List (Int × Int)) (a : Option Addr) (cap : Nat) (x y : Int), l.length ≤ 6 ∧ (0 ≤ x ∧ x ≤ 1000001 ∧ 0 ≤ y ∧ y ≤ 1000001) ∧ e = .returned (.tuple #[.slice a l.length cap, .agg #[.int .i64 x, .int .i64 y]]) ∧ OwnIn w' w.heap.size w'.heap.size a l ∧ Below w.heap.size w w'
def GotText (w : World) (e : Ending) (w' : World) : Prop := ∃ u : ByteArray, u.size ≤ 2000 ∧ e = .returned (.string u) ∧ Below w.heap.size w w'

set_option maxRecDepth 100000 in
theorem drawBytes (w : World) (a : Option Addr) (len cap : Nat) (h : Code w a len) : Calls Try.prog 21 #[.slice a len cap] w (GotOne w) := by
  have H0 := Lib.hid (source_new w a len cap h.1 h.2)
  clear h
  go_enter Try.func21, Try.ntmps21
  go_wp2_with fail
  refine H0.out.mono ?_
  rintro e w1 ⟨rfl, hs1, hb1⟩
  have S1 := Lib.hid hs1
  have B1 := Lib.hid hb1
  have z1 := hs1.lt
  clear hs1 hb1 H0
  go_wp2_with fail
  refine (seen_draw w1 w.heap.size w.heap.size S1.out).mono ?_
  rintro e w2 ⟨l, qa, cap2, hl, rfl, ho, hs2, hw2⟩
  have O2 := Lib.hid ho
  have B2 := Lib.hid (bw B1.out hw2 (Nat.le_refl _))
  clear ho hs2 hw2
  go_wp2
  go_ret
  exact ⟨l, qa, cap2, hl, rfl, O2.out.at_, B2.out⟩

set_option maxRecDepth 100000 in
theorem drawJoin (w : World) (a : Option Addr) (len cap : Nat) (h : Code w a len) : Calls Try.prog 14 #[.slice a len cap] w (GotTwo w) := by
  have H0 := Lib.hid (source_new w a len cap h.1 h.2)
  clear h
  go_enter Try.func14, Try.ntmps14
  go_wp2_with fail
  refine H0.out.mono ?_
  rintro e w1 ⟨rfl, hs1, hb1⟩
  have S1 := Lib.hid hs1
  have B1 := Lib.hid hb1
  have z1 := hs1.lt
  clear hs1 hb1 H0
  go_wp2_with fail
  refine (seen_draw w1 w.heap.size w.heap.size S1.out).mono ?_
  rintro e w2 ⟨l, qa, cap2, hl, rfl, ho, hs2, hw2⟩
  have O2 := Lib.hid ho
  have S2 := Lib.hid hs2
  have B2 := Lib.hid (bw B1.out hw2 (Nat.le_refl _))
  clear ho hs2 hw2
  go_wp2_with fail
  refine (seen_draw w2 w.heap.size w.heap.size S2.out).mono ?_
  rintro e w3 ⟨l', qa', cap3, hl', rfl, ho, hs3, hw3⟩
  have O3 := Lib.hid ho
  have P3 := Lib.hid (own_src O2.out hw3 z1.2)
  have B3 := Lib.hid (bw B2.out hw3 (Nat.le_refl _))
  clear ho hs3 hw3
  go_wp2
  go_ret2
  exact ⟨l, l', qa, qa', cap2, cap3, hl, hl', rfl, P3.out.at_, O3.out.at_, B3.out⟩
set_option maxRecDepth 100000 in
theorem drawLess (w : World) (a : Option Addr) (len cap : Nat) (h : Code w a len) : Calls Try.prog 16 #[.slice a len cap] w (GotTwo w) := by
  have H0 := Lib.hid (drawJoin w a len cap h)
  clear h
  go_enter Try.func16, Try.ntmps16
  go_wp2_with fail
  refine H0.out.mono ?_
  rintro e w1 ⟨l, l', qa, qa', cap2, cap3, hl, hl', rfl, hm, hm', hb⟩
  have M := Lib.hid hm
  have M' := Lib.hid hm'
  have B1 := Lib.hid hb
  clear hm hm' hb H0
  go_wp2
  go_ret2
  exact ⟨l, l', qa, qa', cap2, cap3, hl, hl', rfl, M.out, M'.out, B1.out⟩
set_option maxRecDepth 100000 in
theorem drawOf (w : World) (a : Option Addr) (len cap : Nat) (h : Code w a len) : Calls Try.prog 19 #[.slice a len cap] w (GotNode w) := by
  have H0 := Lib.hid (source_new w a len cap h.1 h.2)
  clear h
  go_enter Try.func19, Try.ntmps19
  go_wp2_with fail
  refine H0.out.mono ?_
  rintro e w1 ⟨rfl, hs1, hb1⟩
  have S1 := Lib.hid hs1
  have B1 := Lib.hid hb1
  have z1 := hs1.lt
  clear hs1 hb1 H0
  go_wp2_with fail
  refine (seen_draw w1 w.heap.size w.heap.size S1.out).mono ?_
  rintro e w2 ⟨l, qa, cap2, hl, rfl, ho, hs2, hw2⟩
  have O2 := Lib.hid ho
  have S2 := Lib.hid hs2
  have B2 := Lib.hid (bw B1.out hw2 (Nat.le_refl _))
  clear ho hs2 hw2
  go_wp2_with fail
  refine (n_draw w2 w.heap.size w.heap.size 7 (by omega) (by omega) S2.out).mono ?_
  rintro e w3 ⟨r, hr, rfl, hs, hg⟩
  have hw3 := within_grown hg
  have P3 := Lib.hid (own_src O2.out hw3 z1.2)
  have B3 := Lib.hid (bw B2.out hw3 (Nat.le_refl _))
  clear hs hg hw3
  go_wp2
  go_ret2
  exact ⟨l, qa, cap2, r, hl, hr, rfl, P3.out.at_, B3.out⟩
set_option maxRecDepth 100000 in
theorem drawHas (w : World) (a : Option Addr) (len cap : Nat) (h : Code w a len) : Calls Try.prog 20 #[.slice a len cap] w (GotDot w) := by
  have hB : Bytes8 (w.alloc (.cells #[.int .i64 0, .int .i64 0] 28)) (w.alloc (.cells #[.int .i64 0, .int .i64 0] 28)).heap.size a len := (h.2.below (step_alloc w _)).mono (by simp)
  have H0 := Lib.hid (source_new _ a len cap h.1 hB)
  have N := Lib.hid (New2.new w (.int .i64 0) (.int .i64 0) 28)
  have z0 : w.heap.size < (w.alloc (.cells #[.int .i64 0, .int .i64 0] 28)).heap.size := by simp
  have B0 := Lib.hid (step_alloc w (.cells #[.int .i64 0, .int .i64 0] 28))
  clear h hB
  generalize hw0 : w.alloc (.cells #[.int .i64 0, .int .i64 0] 28) = W0 at H0 N z0 B0
  have HW0 := Lib.hid hw0
  clear hw0
  go_enter Try.func20, Try.ntmps20
  go_wp2_with fail
  rw [HW0.out]
  refine H0.out.mono ?_
  rintro e w1 ⟨rfl, hs1, hb1⟩
  have S1 := Lib.hid hs1
  have z1 := hs1.lt
  replace N := Lib.hid (N.out.below hb1)
  have B1 := Lib.hid (B0.out.trans (hb1.mono (by omega)))
  clear hs1 hb1 H0
  go_wp2_with fail
  refine (seen_draw w1 W0.heap.size W0.heap.size S1.out).mono ?_
  rintro e w2 ⟨l, qa, cap2, hl, rfl, ho, hs2, hw2⟩
  have O2 := Lib.hid ho
  have S2 := Lib.hid hs2
  have B2 := Lib.hid (bw B1.out hw2 (by omega))
  replace N := Lib.hid (N.out.within hw2 (Or.inl z0))
  have z2 := hw2.size
  clear ho hs2 hw2
  go_wp2_with fail
  refine (dot_draw w2 W0.heap.size W0.heap.size S2.out).mono ?_
  rintro e w3 ⟨⟨x, y⟩, hm, rfl, hs3, hw3⟩
  have P3 := Lib.hid (own_src O2.out hw3 z1.2)
  have B3 := Lib.hid (bw B2.out hw3 (by omega))
  replace N := Lib.hid (N.out.within hw3 (Or.inl z0))
  clear hs3 hw3
  obtain ⟨n0, n1, nf0, nf1, nl⟩ := N.out
  go_wp2
  have hws := ((Within.refl w.heap.size (w.heap.size + 1) w3).setCell (p := ⟨w.heap.size, 0, none⟩) (Nat.le_refl _) (Nat.lt_succ_self _) (.int .i64 x)).setCell (p := ⟨w.heap.size, 1, none⟩) (Nat.le_refl _) (Nat.lt_succ_self _) (.int .i64 y)
  exact bodyPost_ret (v := .tuple #[.slice qa l.length cap2, .agg #[.int .i64 x, .int .i64 y]]) (by simp [results, Try.results20, go_sem, n0, n1]) rfl
    ⟨l, qa, cap2, x, y, hl, hm, rfl, (P3.out.same (hws.same (Nat.le_refl _) (Or.inr (by omega)))).wide (by omega) hws.size, bw B3.out hws (Nat.le_refl _)⟩
set_option maxRecDepth 100000 in
theorem drawPut (w : World) (a : Option Addr) (len cap : Nat) (h : Code w a len) : Calls Try.prog 17 #[.slice a len cap] w (GotDot w) := by
  have hC : Code (w.alloc (.cells #[.int .i64 0, .int .i64 0] 28)) a len := ⟨h.1, (h.2.below (step_alloc w _)).mono (by simp)⟩
  have H0 := Lib.hid (drawHas _ a len cap hC)
  have N := Lib.hid (New2.new w (.int .i64 0) (.int .i64 0) 28)
  have z0 : w.heap.size < (w.alloc (.cells #[.int .i64 0, .int .i64 0] 28)).heap.size := by simp
  have B0 := Lib.hid (step_alloc w (.cells #[.int .i64 0, .int .i64 0] 28))
  clear h hC
  go_enter Try.func17, Try.ntmps17
  go_wp2_with fail
  refine H0.out.mono ?_
  rintro e w1 ⟨l, qa, cap2, x, y, hl, hm, rfl, hmk, hb1⟩
  have P3 := Lib.hid hmk
  replace N := Lib.hid (N.out.below hb1)
  have B1 := Lib.hid (B0.out.trans (hb1.mono (by omega)))
  clear hb1 hmk H0
  obtain ⟨n0, n1, nf0, nf1, nl⟩ := N.out
  go_wp2
  have hws := ((Within.refl w.heap.size (w.heap.size + 1) w1).setCell (p := ⟨w.heap.size, 0, none⟩) (Nat.le_refl _) (Nat.lt_succ_self _) (.int .i64 x)).setCell (p := ⟨w.heap.size, 1, none⟩) (Nat.le_refl _) (Nat.lt_succ_self _) (.int .i64 y)
  exact bodyPost_ret (v := .tuple #[.slice qa l.length cap2, .agg #[.int .i64 x, .int .i64 y]]) (by simp [results, Try.results17, go_sem, n0, n1]) rfl
    ⟨l, qa, cap2, x, y, hl, hm, rfl, (P3.out.same (hws.same (Nat.le_refl _) (Or.inr (by omega)))).wide (by omega) hws.size, bw B1.out hws (Nat.le_refl _)⟩
end Go.Proofs.Ytflhiopdfkggdaa.Mk
