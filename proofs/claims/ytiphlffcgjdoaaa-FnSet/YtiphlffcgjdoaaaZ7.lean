/- Parts of a law: SeenMath, Set5, SeenS, SeenHasS. Conditions: on sizes, as each says. -/
import Derived.Test.YtiphlffcgjdoaaaZ1
import Derived.Test.YtiphlffcgjdoaaaZ6
import Derived.Test.YtiphlffcgjdoaaaZ2
import Derived.Deep.RegionHeld3
set_option linter.unusedSimpArgs false
set_option linter.unusedVariables false
namespace Go.Proofs.Ytiphlffcgjdoaaa.Mk
open Nu Ge Pn

theorem right_ext : ∀ (l l' : List (Int × Int)) (last : Int), okFrom last l = true → okFrom last l' = true → (∀ n, ofL l n = ofL l' n) → l = l'
  | [], [], _, _, _, _ => rfl
  | [], m :: r, _, _, h', he => by
    obtain ⟨hd, _, _⟩ := okFrom_cons.1 h'
    have := he m.1
    have hm := (dotB_iff m).1 hd
    simp [ofL] at this; omega
  | m :: r, [], _, h, _, he => by
    obtain ⟨hd, _, _⟩ := okFrom_cons.1 h
    have := he m.1
    have hm := (dotB_iff m).1 hd
    simp [ofL] at this; omega
  | m :: r, m' :: r', last, h, h', he => by
    obtain ⟨hd, hl, hr⟩ := okFrom_cons.1 h
    obtain ⟨hd', hl', hr'⟩ := okFrom_cons.1 h'
    have hm := (dotB_iff m).1 hd
    have hm' := (dotB_iff m').1 hd'
    have e1 := he m.1
    have e2 := he m'.1
    have f : ∀ n, ofL (m :: r) n = if m.1 = n then m.2 else ofL r n := fun _ => rfl
    have f' : ∀ n, ofL (m' :: r') n = if m'.1 = n then m'.2 else ofL r' n := fun _ => rfl
    rw [f, f'] at e1 e2
    have h1 : m.1 = m'.1 := by
      rcases Int.lt_trichotomy m.1 m'.1 with h | h | h
      · rw [if_pos rfl, if_neg (by omega), ofL_above r' m'.1 m.1 hr' (by omega)] at e1; omega
      · exact h
      · rw [if_neg (by omega), if_pos rfl, ofL_above r m.1 m'.1 hr (by omega)] at e2; omega
    rw [if_pos rfl, if_pos h1.symm] at e1
    have hmm : m = m' := Prod.ext h1 e1
    subst hmm
    congr 1
    refine right_ext r r' m.1 hr hr' fun n => ?_
    by_cases e : m.1 = n
    · rw [ofL_above r m.1 n hr (by omega), ofL_above r' m.1 n hr' (by omega)]
    · have := he n
      rw [f, f', if_neg e, if_neg e] at this; exact this
theorem okFrom_snoc : ∀ (l : List (Int × Int)) (last : Int) (m : Int × Int), okFrom last l = true → (∀ x ∈ l, x.1 < m.1) → last < m.1 → dotB m = true → okFrom last (l ++ [m]) = true
  | [], _, m, _, _, hl, hd => okFrom_cons.2 ⟨hd, hl, rfl⟩
  | x :: r, last, m, h, hx, hl, hd => by
    obtain ⟨hd', hl', hr⟩ := okFrom_cons.1 h
    exact okFrom_cons.2 ⟨hd', hl', okFrom_snoc r x.1 m hr (fun y hy => hx y (by simp [hy])) (hx x (by simp)) hd⟩
theorem ofL_append : ∀ (l l' : List (Int × Int)) (n : Int), (∀ x ∈ l, 1 ≤ x.2) → ofL (l ++ l') n = if ofL l n = 0 then ofL l' n else ofL l n
  | [], l', n, _ => rfl
  | x :: r, l', n, h => by
    have f : ∀ (r : List (Int × Int)), ofL (x :: r) n = if x.1 = n then x.2 else ofL r n := fun _ => rfl
    rw [List.cons_append, f, f]
    have hx := h x (by simp)
    by_cases e : x.1 = n
    · rw [if_pos e, if_pos e, if_neg (by omega)]
    · rw [if_neg e, if_neg e, ofL_append r l' n (fun y hy => h y (by simp [hy]))]
/-- the join's marks up to node k -/
theorem joinTo_good {a b : List (Int × Int)} (ha : rightB a = true) (hb : rightB b = true) : ∀ k : Nat, k ≤ 5 →
    okFrom 0 (joinTo a b k) = true ∧ (∀ x ∈ joinTo a b k, x.1 ≤ k ∧ 1 ≤ x.2) ∧ ∀ n : Int, ofL (joinTo a b k) n = if 1 ≤ n ∧ n ≤ k then imax (ofL a n) (ofL b n) else 0
  | 0, _ => ⟨rfl, fun x hx => by simp [joinTo] at hx, fun n => by rw [if_neg (by omega)]; rfl⟩
  | k + 1, hk => by
    obtain ⟨i1, i2, i3⟩ := joinTo_good ha hb k (by omega)
    have na := ofL_nonneg ha ((k : Int) + 1)
    have nb := ofL_nonneg hb ((k : Int) + 1)
    rw [joinTo_succ]
    by_cases hp : 0 < imax (ofL a ((k : Int) + 1)) (ofL b ((k : Int) + 1))
    · have e : jpick a b ((k : Int) + 1) = some ((k : Int) + 1, imax (ofL a ((k : Int) + 1)) (ofL b ((k : Int) + 1))) := if_pos hp
      rw [e]
      simp only [Option.toList_some]
      refine ⟨okFrom_snoc _ _ _ i1 (fun x hx => by have := (i2 x hx).1; show x.1 < (k : Int) + 1; omega) (by show (0 : Int) < (k : Int) + 1; omega) ((dotB_iff _).2 ?_), fun x hx => ?_, fun n => ?_⟩
      · refine ⟨by show (1 : Int) ≤ (k : Int) + 1; omega, by show (k : Int) + 1 ≤ 5; omega, by simp only; omega, ?_⟩
        simp only; unfold imax; split <;> omega
      · rcases List.mem_append.1 hx with hx | hx
        · have := i2 x hx; exact ⟨by omega, this.2⟩
        · simp at hx; subst hx; exact ⟨by show (k : Int) + 1 ≤ _; omega, by simp only; omega⟩
      · rw [ofL_append _ _ _ (fun x hx => (i2 x hx).2), i3]
        have f : ofL [((k : Int) + 1, imax (ofL a ((k : Int) + 1)) (ofL b ((k : Int) + 1)))] n = if (k : Int) + 1 = n then imax (ofL a ((k : Int) + 1)) (ofL b ((k : Int) + 1)) else 0 := rfl
        rw [f]
        by_cases e1 : 1 ≤ n ∧ n ≤ (k : Int)
        · have e2 : ¬ (k : Int) + 1 = n := by omega
          have e3 : 1 ≤ n ∧ n ≤ ((k + 1 : Nat) : Int) := by omega
          rw [if_pos e1, if_neg e2, if_pos e3]
          split
          · rename_i h; exact h.symm
          · rfl
        · rw [if_neg e1, if_pos rfl]
          by_cases e2 : (k : Int) + 1 = n
          · rw [if_pos e2, if_pos (by omega), e2]
          · rw [if_neg e2, if_neg (by omega)]
    · have e : jpick a b ((k : Int) + 1) = none := if_neg hp
      rw [e]
      simp only [Option.toList_none, List.append_nil]
      refine ⟨i1, fun x hx => ⟨by have := (i2 x hx).1; omega, (i2 x hx).2⟩, fun n => ?_⟩
      rw [i3]
      by_cases e2 : n = (k : Int) + 1
      · rw [if_neg (by omega), if_pos (by omega), e2]
        unfold imax at hp ⊢; split <;> split at hp <;> omega
      · by_cases e1 : 1 ≤ n ∧ n ≤ (k : Int)
        · rw [if_pos e1, if_pos (by omega)]
        · rw [if_neg e1, if_neg (by omega)]
section
variable {a b : List (Int × Int)}
theorem join_right (ha : rightB a = true) (hb : rightB b = true) : rightB (joinV a b) = true := by
  rw [show joinV a b = joinTo a b 5 from if_pos ⟨ha, hb⟩]; exact (joinTo_good ha hb 5 (by omega)).1
theorem join_of (ha : rightB a = true) (hb : rightB b = true) (n : Int) : ofL (joinV a b) n = imax (ofL a n) (ofL b n) := by
  rw [show joinV a b = joinTo a b 5 from if_pos ⟨ha, hb⟩, (joinTo_good ha hb 5 (by omega)).2.2]
  by_cases h : 1 ≤ n ∧ n ≤ ((5 : Nat) : Int)
  · rw [if_pos h]
  · rw [if_neg h, ofL_range ha n (by omega), ofL_range hb n (by omega)]; rfl
theorem join_comm (ha : rightB a = true) (hb : rightB b = true) : joinV a b = joinV b a := by
  refine right_ext _ _ 0 (join_right ha hb) (join_right hb ha) fun n => ?_
  rw [join_of ha hb, join_of hb ha]
  unfold imax; split <;> split <;> omega
theorem less_join (ha : rightB a = true) (hb : rightB b = true) : lessV a (joinV a b) = true := by
  rw [lessV_right ha (join_right ha hb), List.all_eq_true]
  intro m hm
  rw [join_of ha hb, ofL_mem a 0 ha m hm]
  simp only [decide_eq_true_eq]
  unfold imax; split <;> omega
theorem less_iff (ha : rightB a = true) (hb : rightB b = true) : lessV a b = true ↔ ∀ n, ofL a n ≤ ofL b n := by
  rw [lessV_right ha hb, List.all_eq_true]
  constructor
  · intro h n
    by_cases hex : ∃ m ∈ a, m.1 = n
    · obtain ⟨m, hm, rfl⟩ := hex
      have := h m hm
      rw [ofL_mem a 0 ha m hm]; simpa using this
    · rw [ofL_none a n (fun m hm e => hex ⟨m, hm, e⟩)]; exact (ofL_nonneg hb n).1
  · intro h m hm
    have := h m.1
    rw [ofL_mem a 0 ha m hm] at this; simpa using this
theorem less_eq_join (ha : rightB a = true) (hb : rightB b = true) : lessV a b = decide (joinV a b = b) := by
  rw [Bool.eq_iff_iff, less_iff ha hb, decide_eq_true_eq]
  constructor
  · intro h
    refine right_ext _ _ 0 (join_right ha hb) hb fun n => ?_
    rw [join_of ha hb]
    have := h n
    unfold imax; split <;> omega
  · intro h n
    have := join_of ha hb n
    rw [h] at this
    rw [this]
    unfold imax; split <;> omega
theorem seenOf_join (ha : rightB a = true) (hb : rightB b = true) (n : Int) : seenOf (joinV a b) n = seenOf a n ∨ seenOf (joinV a b) n = seenOf b n := by
  unfold seenOf
  rw [if_pos (join_right ha hb), if_pos ha, if_pos hb, join_of ha hb]
  unfold imax; split
  · exact .inl rfl
  · exact .inr rfl
end
theorem less_join' {a b : List (Int × Int)} (ha : rightB a = true) (hb : rightB b = true) : lessV b (joinV a b) = true := by
  rw [join_comm ha hb]; exact less_join hb ha
theorem put_has {l : List (Int × Int)} {m : Int × Int} (h : putC l m = 0) : hasB (putL l m) m = true := by
  unfold putC at h
  split at h
  · rename_i hs
    split at h
    · rename_i hc
      obtain ⟨hr, hd⟩ := hc
      rw [joinV_one hr hd]
      unfold hasB
      rw [join_right hr (right_one hd), hd, join_of hr (right_one hd)]
      have f : ofL [m] m.1 = m.2 := if_pos rfl
      rw [f]
      simp; unfold imax; split <;> omega
    · cases h
  · cases h
theorem readN_fwd {s : ByteArray} {a : Nat} {n : Int} (h : Pn.At s a (enc (fold n))) (hn : -9223372036854775808 ≤ n ∧ n ≤ 9223372036854775807) : readN s (a : Int) = (n, ((a + (enc (fold n)).length : Nat) : Int), 0) := by
  unfold readN
  rw [if_neg (by omega), Int.toNat_natCast, G_enc s a (fold n) 0 0 h (by omega) (by decide) (by have := fold_lt n hn; simpa using this) (.inl rfl)]
  simp [unz_fold]
theorem At.left {s : ByteArray} {k : Nat} : ∀ {l1 l2 : List UInt8}, Pn.At s k (l1 ++ l2) → Pn.At s k l1 ∧ Pn.At s (k + l1.length) l2 := by
  intro l1
  induction l1 generalizing k with
  | nil => intro l2 h; exact ⟨⟨by have := h.1; simp at this ⊢; omega, fun j hj => by simp at hj⟩, by simpa using h⟩
  | cons c r ih =>
    intro l2 h
    obtain ⟨hb, hk⟩ := Pn.At.head h
    obtain ⟨h1, h2⟩ := ih h.tail
    refine ⟨Pn.At.cons hk hb h1, ?_⟩
    rw [show k + (c :: r).length = k + 1 + r.length by simp; omega]; exact h2
theorem readMarks_fwd (s : ByteArray) : ∀ (l : List (Int × Int)) (a : Nat), (∀ m ∈ l, dotB m = true) → Pn.At s a (l.flatMap markB) → readMarks s l.length (a : Int) = some (l, ((a + (l.flatMap markB).length : Nat) : Int))
  | [], a, _, _ => by simp [readMarks]
  | m :: r, a, h, hat => by
    have hm := (dotB_iff m).1 (h m (by simp))
    rw [List.flatMap_cons] at hat
    obtain ⟨h1, h2⟩ := At.left hat
    obtain ⟨h3, h4⟩ := At.left (show Pn.At s a (enc (fold m.1) ++ enc (fold m.2)) from h1)
    have r1 := readN_fwd h3 (by omega)
    have r2 := readN_fwd h4 (by omega)
    have e : a + (markB m).length = a + (enc (fold m.1)).length + (enc (fold m.2)).length := by
      rw [show (markB m).length = _ from markB_len m.1 m.2]; omega
    rw [e] at h2
    have ih := readMarks_fwd s r _ (fun x hx => h x (by simp [hx])) h2
    rw [List.length_cons, readMarks_succ, r1]
    simp only
    rw [r2]
    simp only [and_self, if_true]
    rw [ih]
    simp only [Option.map_some, Option.some.injEq, Prod.mk.injEq, true_and]
    rw [List.flatMap_cons, List.length_append, ← Nat.add_assoc, e]
theorem at_self (l : List UInt8) : Pn.At ⟨l.toArray⟩ 0 l := by
  refine ⟨by simp [ByteArray.size], fun j hj => ?_⟩
  unfold byteN
  simp [List.getD, hj]
theorem read_bytes {l : List (Int × Int)} (h : rightB l = true) : readL (bytesV l) = l ∧ readC (bytesV l) = 0 := by
  have hle := flat_length_le l (right_dot h)
  have h5 := right_len h
  have h2 := enc_len10 (fold l.length) (fold_lt _ (by omega))
  have hsz : (bytesV l).size = (seenB l).length := by rw [bytesV_yes h]; simp [ByteArray.size]
  have h8 : ¬ 8000 < (bytesV l).size := by
    rw [hsz]; unfold seenB; rw [List.length_append]; omega
  have hat : Pn.At (bytesV l) 0 (seenB l) := by rw [bytesV_yes h]; exact at_self _
  obtain ⟨h3, h4⟩ := At.left (show Pn.At (bytesV l) 0 (enc (fold l.length) ++ l.flatMap markB) from hat)
  have r1 := readN_fwd h3 (by omega)
  have r2 := readMarks_fwd _ l _ (right_dot h) h4
  have hp : parse (bytesV l) 0 = some (l, ((0 + (enc (fold l.length)).length + (l.flatMap markB).length : Nat) : Int)) := by
    have r1' : readN (bytesV l) 0 = ((l.length : Int), ((0 + (enc (fold l.length)).length : Nat) : Int), 0) := r1
    unfold parse
    rw [r1']
    simp only
    rw [if_pos ⟨trivial, by omega, by omega⟩, Int.toNat_natCast]; exact r2
  exact read_yes h8 (seenAt_some hp h) (by rw [hsz]; unfold seenB; rw [List.length_append]; omega)
theorem bytes_read {s : ByteArray} (h : readC s = 0) : bytesV (readL s) = s := by
  by_cases h8 : 8000 < s.size
  · rw [(read_size h8).2] at h; cases h
  cases hs : seenAt s 0 with
  | none => rw [(read_none h8 hs).2] at h; cases h
  | some p =>
    obtain ⟨l, e⟩ := p
    by_cases he : e = (s.size : Int)
    · rw [(read_yes h8 hs he).1]
      unfold seenAt at hs
      obtain ⟨hp, hr⟩ := Option.filter_eq_some_iff.1 hs
      exact read_right hp hr he
    · rw [(read_more h8 hs he).2] at h; cases h
end Go.Proofs.Ytiphlffcgjdoaaa.Mk

namespace Go.Proofs.Ytiphlffcgjdoaaa.Sb
open Go.RowKit Go.Proofs.Ytiphlffcgjdoaaa.Mk Go.Proofs.Ytiphlffcgjdoaaa.Rw
theorem cells_set5 {w : World} {g : Nat} {u0 u1 u2 u3 u4 : Value} (h : Cells w g [u0, u1, u2, u3, u4]) (v0 v1 v2 v3 v4 : Value) :
    Cells (((((w.setCell ⟨g, 0, none⟩ v0).setCell ⟨g, 1, none⟩ v1).setCell ⟨g, 2, none⟩ v2).setCell ⟨g, 3, none⟩ v3).setCell ⟨g, 4, none⟩ v4) g [v0, v1, v2, v3, v4] :=
  ((((h.set 0 (by simp) v0).set 1 (by simp) v1).set 2 (by simp) v2).set 3 (by simp) v3).set 4 (by simp) v4
theorem within_set5 (w : World) (g : Nat) (v0 v1 v2 v3 v4 : Value) :
    Within g (g + 1) w (((((w.setCell ⟨g, 0, none⟩ v0).setCell ⟨g, 1, none⟩ v1).setCell ⟨g, 2, none⟩ v2).setCell ⟨g, 3, none⟩ v3).setCell ⟨g, 4, none⟩ v4) :=
  ((((one_store w g 0 v0).trans (one_store _ g 1 v1)).trans (one_store _ g 2 v2)).trans (one_store _ g 3 v3)).trans (one_store _ g 4 v4)
end Go.Proofs.Ytiphlffcgjdoaaa.Sb

namespace Go.Proofs.Ytiphlffcgjdoaaa.Mk
open Go.RowKit

def isB (n lo hi : Int) : Bool := decide (lo ≤ n) && decide (n ≤ hi)
theorem spec_is (n lo hi : Int) (w : World) : Calls Try.prog 86 #[.int .i64 n, .int .i64 lo, .int .i64 hi] w fun e w' => e = .returned (.bool (isB n lo hi)) ∧ w = w' := by
  by_cases h1 : lo ≤ n <;> by_cases h2 : n ≤ hi
  all_goals
    go_enter Try.func86, Try.ntmps86
    go_wp2
    all_goals go_ret
    all_goals exact ⟨ret_bool (by unfold isB; simp; omega), rfl⟩
theorem spec_node (n : Int) (w : World) : Calls Try.prog 55 #[.int .i64 n] w fun e w' => e = .returned (.bool (isB n 1 5)) ∧ w = w' := by
  go_enter Try.func55, Try.ntmps55
  go_wp2_with (go_at_call 86; refine (spec_is _ _ _ _).mono ?_; rintro e w' ⟨rfl, rfl⟩)
  go_ret
  exact ⟨rfl, rfl⟩
theorem spec_dot (m : Int × Int) (w : World) : Calls Try.prog 69 #[mv m] w fun e w' => e = .returned (.bool (dotB m)) ∧ Below w.heap.size w w' := by
  obtain ⟨x, y⟩ := m
  unfold mv
  have e : dotB (x, y) = (isB x 1 5 && isB y 1 1000000) := by unfold dotB isB; simp [Bool.and_assoc]
  rw [e]
  clear e
  cases hn : isB x 1 5
  all_goals
    go_enter Try.func69, Try.ntmps69
    go_wp2_with (first | (go_at_call 55; refine (spec_node _ _).mono ?_; rintro e w' ⟨rfl, rfl⟩) | (go_at_call 86; refine (spec_is _ _ _ _).mono ?_; rintro e w' ⟨rfl, rfl⟩))
    go_ret
    exact ⟨rfl, (Below.refl _ _).alloc (Nat.le_refl _) _⟩

theorem right_end {l : List (Int × Int)} {k : Nat} {last : Int} (h : rightB l = okFrom last (l.drop k)) (hk : l.length ≤ k ∨ 6 ≤ k) : decide ((l.length : Int) ≤ 5) = rightB l := by
  rcases hk with hk | hk
  · have h1 : rightB l = true := by rw [h, okFrom_end l k last hk]
    have := right_len h1
    rw [h1]; simp; omega
  · by_cases h2 : l.length ≤ 5
    · have h1 : rightB l = true := by rw [h, okFrom_end l k last (by omega)]
      rw [h1]; simp; omega
    · have h1 : rightB l = false := by
        cases hh : rightB l
        · rfl
        · exact absurd (right_len hh) h2
      rw [h1]; simp; omega

set_option maxRecDepth 100000 in
set_option maxHeartbeats 2000000 in
theorem spec_seenRight (a : Option Addr) (cap : Nat) (l : List (Int × Int)) (w : World) (hl : l.length ≤ maxLen) (h : MarksAt w a l) :
    Calls Try.prog 54 #[.slice a l.length cap] w fun e w' => e = .returned (.bool (rightB l)) ∧ Below w.heap.size w w' := by
  have H := Lib.hid h
  clear h
  unfold maxLen at hl
  go_enter Try.func54, Try.ntmps54
  go_wp2
  go_loopw [3] (fun i wr => ∃ (k : Nat), k ≤ l.length ∧ k ≤ 6 ∧ i = .int .i64 k ∧ rightB l = okFrom (before l k) (l.drop k) ∧ Below w.heap.size w wr) (fun i _ => 6 - (intOf i).toNat)
  case atStart => exact ⟨0, Nat.zero_le _, by omega, rfl, by simp [rightB, before], Below.refl _ _⟩
  case round =>
    obtain ⟨k, hk, hk6, rfl, hr, hbel⟩ := hrel
    have HR := Lib.hid hr
    have HB := Lib.hid hbel
    clear hr hbel
    by_cases hlt : k < l.length ∧ k ≤ 5
    · obtain ⟨hlt, hk5⟩ := hlt
      obtain ⟨g, off, rfl, hg, c0, c1⟩ := (H.out.mono HB.out).cells hlt
      have HS := Lib.hid (HR.out.trans (okFrom_step l k _ hlt))
      have hbe : before l (k + 1) = l[k].1 := by unfold before; simp [List.getD, hlt]
      have HE := Lib.hid hbe
      clear hbe
      have i0 : (0 : Int) ≤ (k : Int) := by omega
      have i1 : (k : Int) < (l.length : Int) := by omega
      by_cases hk0 : k = 0
      · subst hk0
        have b0 : before l 0 = 0 := rfl
        rw [b0] at HS
        generalize l[0] = m at c0 c1 HS HE
        obtain ⟨x, y⟩ := m
        rw [Nat.zero_mul, Nat.add_zero] at c0 c1
        simp only at c0 c1
        cases hd : dotB (x, y)
        · go_wp2_with fail
          refine wp_region_held_drew (S := fun w' => w'.cell? ⟨g, off, none⟩ = some (.int .i64 x) ∧ w'.cell? ⟨g, off + 1, none⟩ = some (.int .i64 y)) (by kernel_rfl) (by first | go_keep | (go_split_ands; refine ⟨?_, ?_⟩ <;> (rw [hb.cell (by assumption)]; assumption))) (fun hHeld => ?_)
          refine tk 0 (v := ?_) ?_
          try simp only [Act.put, n1, n2, n3, n4, n5, n6]
          refine tk 1 (v := ?_) ?_
          try simp only [Act.put, n1, n2, n3, n4, n5, n6]
          refine tk 2 (v := ?_) ?_
          try simp only [Act.put, n1, n2, n3, n4, n5, n6]
          refine tk 3 (v := ?_) ?_
          try simp only [Act.put, n1, n2, n3, n4, n5, n6]
          refine wpAnyH_ready (rs := [4]) (by kernel_rfl) (by simp) ?_
          refine AllReadyH.cons rfl (fun K hK => ?_) AllReadyH.nil
          go_simp
          go_at_call 69; refine (spec_dot (x, y) _).mono ?_; rintro e w' ⟨rfl, hb⟩
          go_wp2_with fail
          refine hK.out _ _ (by first | go_keep | (go_split_ands; refine ⟨?_, ?_⟩ <;> (rw [hb.cell (by assumption)]; assumption))) (fun hHeld => ?_)
          clear hK K
          try simp only [Act.put, n1, n2, n3, n4, n5, n6]
          refine tk 5 (v := ?_) ?_
          try simp only [Act.put, n1, n2, n3, n4, n5, n6]
          refine tk 6 (v := ?_) ?_
          try simp only [Act.put, n1, n2, n3, n4, n5, n6]
          refine wpAnyH_take (i := 7) (v := undef) rfl (by kernel_rfl) (by kernel_rfl) (by kernel_rfl) (fun _ _ _ h => h) (Or.inr ⟨by rfl, rfl⟩) (by assumption) ?_
          try simp only [Act.put, n1, n2, n3, n4, n5, n6]
          refine wpAnyH_take (i := 8) (v := undef) rfl (by kernel_rfl) (by kernel_rfl) (by kernel_rfl) (fun _ _ _ h => h) (Or.inr ⟨by rfl, rfl⟩) (by assumption) ?_
          try simp only [Act.put, n1, n2, n3, n4, n5, n6]
          refine wpAnyH_take (i := 9) (v := undef) rfl (by kernel_rfl) (by kernel_rfl) (by kernel_rfl) (fun _ _ _ h => h) (Or.inr ⟨by rfl, rfl⟩) (by assumption) ?_
          try simp only [Act.put, n1, n2, n3, n4, n5, n6]
          refine wpAnyH_take (i := 10) (v := undef) rfl (by kernel_rfl) (by kernel_rfl) (by kernel_rfl) (fun _ _ _ h => h) (Or.inr ⟨by rfl, rfl⟩) (by assumption) ?_
          try simp only [Act.put, n1, n2, n3, n4, n5, n6]
          refine wpAnyH_take (i := 11) (v := undef) rfl (by kernel_rfl) (by kernel_rfl) (by kernel_rfl) (fun _ _ _ h => h) (Or.inr ⟨by rfl, rfl⟩) (by assumption) ?_
          try simp only [Act.put, n1, n2, n3, n4, n5, n6]
          refine wpAnyH_take (i := 12) (v := undef) rfl (by kernel_rfl) (by kernel_rfl) (by kernel_rfl) (fun _ _ _ h => h) (Or.inr ⟨by rfl, rfl⟩) (by assumption) ?_
          try simp only [Act.put, n1, n2, n3, n4, n5, n6]
          refine wpAnyH_take (i := 13) (v := undef) rfl (by kernel_rfl) (by kernel_rfl) (by kernel_rfl) (fun _ _ _ h => h) (Or.inr ⟨by rfl, rfl⟩) (by assumption) ?_
          try simp only [Act.put, n1, n2, n3, n4, n5, n6]
          refine wpAnyH_take (i := 14) (v := undef) rfl (by kernel_rfl) (by kernel_rfl) (by kernel_rfl) (fun _ _ _ h => h) (Or.inr ⟨by rfl, rfl⟩) (by assumption) ?_
          try simp only [Act.put, n1, n2, n3, n4, n5, n6]
          refine wpAnyH_take (i := 15) (v := undef) rfl (by kernel_rfl) (by kernel_rfl) (by kernel_rfl) (fun _ _ _ h => h) (Or.inr ⟨by rfl, rfl⟩) (by assumption) ?_
          try simp only [Act.put, n1, n2, n3, n4, n5, n6]
          refine wpAnyH_take (i := 16) (v := undef) rfl (by kernel_rfl) (by kernel_rfl) (by kernel_rfl) (fun _ _ _ h => h) (Or.inr ⟨by rfl, rfl⟩) (by assumption) ?_
          try simp only [Act.put, n1, n2, n3, n4, n5, n6]
          refine wpAnyH_take (i := 17) (v := undef) rfl (by kernel_rfl) (by kernel_rfl) (by kernel_rfl) (fun _ _ _ h => h) (Or.inr ⟨by rfl, rfl⟩) (by assumption) ?_
          try simp only [Act.put, n1, n2, n3, n4, n5, n6]
          refine wpAnyH_take (i := 18) (v := undef) rfl (by kernel_rfl) (by kernel_rfl) (by kernel_rfl) (fun _ _ _ h => h) (Or.inr ⟨by rfl, rfl⟩) (by assumption) ?_
          try simp only [Act.put, n1, n2, n3, n4, n5, n6]
          refine wpAnyH_take (i := 19) (v := undef) rfl (by kernel_rfl) (by kernel_rfl) (by kernel_rfl) (fun _ _ _ h => h) (Or.inr ⟨by rfl, rfl⟩) (by assumption) ?_
          try simp only [Act.put, n1, n2, n3, n4, n5, n6]
          refine wpAnyH_take (i := 20) (v := undef) rfl (by kernel_rfl) (by kernel_rfl) (by kernel_rfl) (fun _ _ _ h => h) (Or.inr ⟨by rfl, rfl⟩) (by assumption) ?_
          try simp only [Act.put, n1, n2, n3, n4, n5, n6]
          refine wpAnyH_take (i := 21) (v := undef) rfl (by kernel_rfl) (by kernel_rfl) (by kernel_rfl) (fun _ _ _ h => h) (Or.inr ⟨by rfl, rfl⟩) (by assumption) ?_
          try simp only [Act.put, n1, n2, n3, n4, n5, n6]
          refine wpAnyH_take (i := 22) (v := undef) rfl (by kernel_rfl) (by kernel_rfl) (by kernel_rfl) (fun _ _ _ h => h) (Or.inr ⟨by rfl, rfl⟩) (by assumption) ?_
          try simp only [Act.put, n1, n2, n3, n4, n5, n6]
          refine tk 23 (v := ?_) ?_
          try simp only [Act.put, n1, n2, n3, n4, n5, n6]
          refine wpAnyH_done (by kernel_rfl) ?_ _
          have HQ := Lib.hid (HB.out.drew.trans (hb.mono HB.out.size))
          clear hb
          go_wp2
          go_ret
          exact ⟨ret_bool (by rw [HS.out, hd]; rfl), HQ.out⟩
        · go_wp2_with fail
          refine wp_region_held_drew (S := fun w' => w'.cell? ⟨g, off, none⟩ = some (.int .i64 x) ∧ w'.cell? ⟨g, off + 1, none⟩ = some (.int .i64 y)) (by kernel_rfl) (by first | go_keep | (go_split_ands; refine ⟨?_, ?_⟩ <;> (rw [hb.cell (by assumption)]; assumption))) (fun hHeld => ?_)
          refine tk 0 (v := ?_) ?_
          try simp only [Act.put, n1, n2, n3, n4, n5, n6]
          refine tk 1 (v := ?_) ?_
          try simp only [Act.put, n1, n2, n3, n4, n5, n6]
          refine tk 2 (v := ?_) ?_
          try simp only [Act.put, n1, n2, n3, n4, n5, n6]
          refine tk 3 (v := ?_) ?_
          try simp only [Act.put, n1, n2, n3, n4, n5, n6]
          refine wpAnyH_ready (rs := [4]) (by kernel_rfl) (by simp) ?_
          refine AllReadyH.cons rfl (fun K hK => ?_) AllReadyH.nil
          go_simp
          go_at_call 69; refine (spec_dot (x, y) _).mono ?_; rintro e w' ⟨rfl, hb⟩
          go_wp2_with fail
          refine hK.out _ _ (by first | go_keep | (go_split_ands; refine ⟨?_, ?_⟩ <;> (rw [hb.cell (by assumption)]; assumption))) (fun hHeld => ?_)
          clear hK K
          try simp only [Act.put, n1, n2, n3, n4, n5, n6]
          refine tk 5 (v := ?_) ?_
          try simp only [Act.put, n1, n2, n3, n4, n5, n6]
          refine tk 6 (v := ?_) ?_
          try simp only [Act.put, n1, n2, n3, n4, n5, n6]
          refine tk 7 (v := ?_) ?_
          try simp only [Act.put, n1, n2, n3, n4, n5, n6]
          refine tk 8 (v := ?_) ?_
          try simp only [Act.put, n1, n2, n3, n4, n5, n6]
          refine tk 9 (v := ?_) ?_
          try simp only [Act.put, n1, n2, n3, n4, n5, n6]
          refine wpAnyH_take (i := 10) (v := undef) rfl (by kernel_rfl) (by kernel_rfl) (by kernel_rfl) (fun _ _ _ h => h) (Or.inr ⟨by rfl, rfl⟩) (by assumption) ?_
          try simp only [Act.put, n1, n2, n3, n4, n5, n6]
          refine wpAnyH_take (i := 11) (v := undef) rfl (by kernel_rfl) (by kernel_rfl) (by kernel_rfl) (fun _ _ _ h => h) (Or.inr ⟨by rfl, rfl⟩) (by assumption) ?_
          try simp only [Act.put, n1, n2, n3, n4, n5, n6]
          refine wpAnyH_take (i := 12) (v := undef) rfl (by kernel_rfl) (by kernel_rfl) (by kernel_rfl) (fun _ _ _ h => h) (Or.inr ⟨by rfl, rfl⟩) (by assumption) ?_
          try simp only [Act.put, n1, n2, n3, n4, n5, n6]
          refine wpAnyH_take (i := 13) (v := undef) rfl (by kernel_rfl) (by kernel_rfl) (by kernel_rfl) (fun _ _ _ h => h) (Or.inr ⟨by rfl, rfl⟩) (by assumption) ?_
          try simp only [Act.put, n1, n2, n3, n4, n5, n6]
          refine wpAnyH_take (i := 14) (v := undef) rfl (by kernel_rfl) (by kernel_rfl) (by kernel_rfl) (fun _ _ _ h => h) (Or.inr ⟨by rfl, rfl⟩) (by assumption) ?_
          try simp only [Act.put, n1, n2, n3, n4, n5, n6]
          refine wpAnyH_take (i := 15) (v := undef) rfl (by kernel_rfl) (by kernel_rfl) (by kernel_rfl) (fun _ _ _ h => h) (Or.inr ⟨by rfl, rfl⟩) (by assumption) ?_
          try simp only [Act.put, n1, n2, n3, n4, n5, n6]
          refine wpAnyH_take (i := 16) (v := undef) rfl (by kernel_rfl) (by kernel_rfl) (by kernel_rfl) (fun _ _ _ h => h) (Or.inr ⟨by rfl, rfl⟩) (by assumption) ?_
          try simp only [Act.put, n1, n2, n3, n4, n5, n6]
          refine wpAnyH_take (i := 17) (v := undef) rfl (by kernel_rfl) (by kernel_rfl) (by kernel_rfl) (fun _ _ _ h => h) (Or.inr ⟨by rfl, rfl⟩) (by assumption) ?_
          try simp only [Act.put, n1, n2, n3, n4, n5, n6]
          refine wpAnyH_take (i := 18) (v := undef) rfl (by kernel_rfl) (by kernel_rfl) (by kernel_rfl) (fun _ _ _ h => h) (Or.inr ⟨by rfl, rfl⟩) (by assumption) ?_
          try simp only [Act.put, n1, n2, n3, n4, n5, n6]
          refine wpAnyH_take (i := 19) (v := undef) rfl (by kernel_rfl) (by kernel_rfl) (by kernel_rfl) (fun _ _ _ h => h) (Or.inr ⟨by rfl, rfl⟩) (by assumption) ?_
          try simp only [Act.put, n1, n2, n3, n4, n5, n6]
          refine wpAnyH_take (i := 20) (v := undef) rfl (by kernel_rfl) (by kernel_rfl) (by kernel_rfl) (fun _ _ _ h => h) (Or.inr ⟨by rfl, rfl⟩) (by assumption) ?_
          try simp only [Act.put, n1, n2, n3, n4, n5, n6]
          refine wpAnyH_take (i := 21) (v := undef) rfl (by kernel_rfl) (by kernel_rfl) (by kernel_rfl) (fun _ _ _ h => h) (Or.inr ⟨by rfl, rfl⟩) (by assumption) ?_
          try simp only [Act.put, n1, n2, n3, n4, n5, n6]
          refine tk 22 (v := ?_) ?_
          try simp only [Act.put, n1, n2, n3, n4, n5, n6]
          refine tk 23 (v := ?_) ?_
          try simp only [Act.put, n1, n2, n3, n4, n5, n6]
          refine wpAnyH_done (by kernel_rfl) ?_ _
          have HQ := Lib.hid (HB.out.drew.trans (hb.mono HB.out.size))
          clear hb
          go_wp2
          go_roundw
          case rel =>
            refine ⟨0 + 1, by omega, by omega, by go_num, ?_, HQ.out⟩
            have hx := (dotB_iff _).1 hd
            rw [HE.out, HS.out, hd, decide_eq_true (by simp at hx; omega)]; rfl
          case measure => go_light; simp [intOf]
      · obtain ⟨j, rfl⟩ : ∃ j, k = j + 1 := ⟨k - 1, by omega⟩
        have hbj : before l (j + 1) = (l[j]'(by omega)).1 := by unfold before; simp [List.getD, show j < l.length by omega]
        rw [hbj] at HS
        clear hbj
        obtain ⟨g2, off2, hga, hg2, d0, d1⟩ := (H.out.mono HB.out).cells (show j < l.length by omega)
        simp only [Option.some.injEq, Addr.mk.injEq, and_true] at hga
        obtain ⟨rfl, rfl⟩ := hga
        generalize l[j + 1] = m at c0 c1 HS HE
        generalize l[j]'(by omega) = m0 at d0 d1 HS
        obtain ⟨x, y⟩ := m
        obtain ⟨x0, y0⟩ := m0
        simp only at c0 c1 d0 d1
        have j0 : (0 : Int) ≤ (j : Int) + 1 := by omega
        have j1 : (j : Int) + 1 < (l.length : Int) := by omega
        have j2 : (0 : Int) ≤ (j : Int) := by omega
        have j3 : (j : Int) < (l.length : Int) := by omega
        have j4 : IntKind.i64.wrap (j : Int) = (j : Int) := by rw [IntKind.wrap_i64]; omega
        clear hk0 d1 i0 i1
        cases hd : dotB (x, y)
        · go_wp2_with fail
          refine wp_region_held_drew (S := fun w' => w'.cell? ⟨g, off + (j + 1) * 2, none⟩ = some (.int .i64 x) ∧ w'.cell? ⟨g, off + (j + 1) * 2 + 1, none⟩ = some (.int .i64 y) ∧ w'.cell? ⟨g, off + j * 2, none⟩ = some (.int .i64 x0)) (by kernel_rfl) (by first | go_keep | (go_split_ands; refine ⟨?_, ?_, ?_⟩ <;> (rw [hb.cell (by assumption)]; assumption))) (fun hHeld => ?_)
          refine tk 0 (v := ?_) ?_
          try simp only [Act.put, n1, n2, n3, n4, n5, n6]
          refine tk 1 (v := ?_) ?_
          try simp only [Act.put, n1, n2, n3, n4, n5, n6]
          refine tk 2 (v := ?_) ?_
          try simp only [Act.put, n1, n2, n3, n4, n5, n6]
          refine tk 3 (v := ?_) ?_
          try simp only [Act.put, n1, n2, n3, n4, n5, n6]
          refine wpAnyH_ready (rs := [4]) (by kernel_rfl) (by simp) ?_
          refine AllReadyH.cons rfl (fun K hK => ?_) AllReadyH.nil
          go_simp
          go_at_call 69; refine (spec_dot (x, y) _).mono ?_; rintro e w' ⟨rfl, hb⟩
          go_wp2_with fail
          refine hK.out _ _ (by first | go_keep | (go_split_ands; refine ⟨?_, ?_, ?_⟩ <;> (rw [hb.cell (by assumption)]; assumption))) (fun hHeld => ?_)
          clear hK K
          try simp only [Act.put, n1, n2, n3, n4, n5, n6]
          refine tk 5 (v := ?_) ?_
          try simp only [Act.put, n1, n2, n3, n4, n5, n6]
          refine tk 6 (v := ?_) ?_
          try simp only [Act.put, n1, n2, n3, n4, n5, n6]
          refine wpAnyH_take (i := 7) (v := undef) rfl (by kernel_rfl) (by kernel_rfl) (by kernel_rfl) (fun _ _ _ h => h) (Or.inr ⟨by rfl, rfl⟩) (by assumption) ?_
          try simp only [Act.put, n1, n2, n3, n4, n5, n6]
          refine wpAnyH_take (i := 8) (v := undef) rfl (by kernel_rfl) (by kernel_rfl) (by kernel_rfl) (fun _ _ _ h => h) (Or.inr ⟨by rfl, rfl⟩) (by assumption) ?_
          try simp only [Act.put, n1, n2, n3, n4, n5, n6]
          refine wpAnyH_take (i := 9) (v := undef) rfl (by kernel_rfl) (by kernel_rfl) (by kernel_rfl) (fun _ _ _ h => h) (Or.inr ⟨by rfl, rfl⟩) (by assumption) ?_
          try simp only [Act.put, n1, n2, n3, n4, n5, n6]
          refine wpAnyH_take (i := 10) (v := undef) rfl (by kernel_rfl) (by kernel_rfl) (by kernel_rfl) (fun _ _ _ h => h) (Or.inr ⟨by rfl, rfl⟩) (by assumption) ?_
          try simp only [Act.put, n1, n2, n3, n4, n5, n6]
          refine wpAnyH_take (i := 11) (v := undef) rfl (by kernel_rfl) (by kernel_rfl) (by kernel_rfl) (fun _ _ _ h => h) (Or.inr ⟨by rfl, rfl⟩) (by assumption) ?_
          try simp only [Act.put, n1, n2, n3, n4, n5, n6]
          refine wpAnyH_take (i := 12) (v := undef) rfl (by kernel_rfl) (by kernel_rfl) (by kernel_rfl) (fun _ _ _ h => h) (Or.inr ⟨by rfl, rfl⟩) (by assumption) ?_
          try simp only [Act.put, n1, n2, n3, n4, n5, n6]
          refine wpAnyH_take (i := 13) (v := undef) rfl (by kernel_rfl) (by kernel_rfl) (by kernel_rfl) (fun _ _ _ h => h) (Or.inr ⟨by rfl, rfl⟩) (by assumption) ?_
          try simp only [Act.put, n1, n2, n3, n4, n5, n6]
          refine wpAnyH_take (i := 14) (v := undef) rfl (by kernel_rfl) (by kernel_rfl) (by kernel_rfl) (fun _ _ _ h => h) (Or.inr ⟨by rfl, rfl⟩) (by assumption) ?_
          try simp only [Act.put, n1, n2, n3, n4, n5, n6]
          refine wpAnyH_take (i := 15) (v := undef) rfl (by kernel_rfl) (by kernel_rfl) (by kernel_rfl) (fun _ _ _ h => h) (Or.inr ⟨by rfl, rfl⟩) (by assumption) ?_
          try simp only [Act.put, n1, n2, n3, n4, n5, n6]
          refine wpAnyH_take (i := 16) (v := undef) rfl (by kernel_rfl) (by kernel_rfl) (by kernel_rfl) (fun _ _ _ h => h) (Or.inr ⟨by rfl, rfl⟩) (by assumption) ?_
          try simp only [Act.put, n1, n2, n3, n4, n5, n6]
          refine wpAnyH_take (i := 17) (v := undef) rfl (by kernel_rfl) (by kernel_rfl) (by kernel_rfl) (fun _ _ _ h => h) (Or.inr ⟨by rfl, rfl⟩) (by assumption) ?_
          try simp only [Act.put, n1, n2, n3, n4, n5, n6]
          refine wpAnyH_take (i := 18) (v := undef) rfl (by kernel_rfl) (by kernel_rfl) (by kernel_rfl) (fun _ _ _ h => h) (Or.inr ⟨by rfl, rfl⟩) (by assumption) ?_
          try simp only [Act.put, n1, n2, n3, n4, n5, n6]
          refine wpAnyH_take (i := 19) (v := undef) rfl (by kernel_rfl) (by kernel_rfl) (by kernel_rfl) (fun _ _ _ h => h) (Or.inr ⟨by rfl, rfl⟩) (by assumption) ?_
          try simp only [Act.put, n1, n2, n3, n4, n5, n6]
          refine wpAnyH_take (i := 20) (v := undef) rfl (by kernel_rfl) (by kernel_rfl) (by kernel_rfl) (fun _ _ _ h => h) (Or.inr ⟨by rfl, rfl⟩) (by assumption) ?_
          try simp only [Act.put, n1, n2, n3, n4, n5, n6]
          refine wpAnyH_take (i := 21) (v := undef) rfl (by kernel_rfl) (by kernel_rfl) (by kernel_rfl) (fun _ _ _ h => h) (Or.inr ⟨by rfl, rfl⟩) (by assumption) ?_
          try simp only [Act.put, n1, n2, n3, n4, n5, n6]
          refine wpAnyH_take (i := 22) (v := undef) rfl (by kernel_rfl) (by kernel_rfl) (by kernel_rfl) (fun _ _ _ h => h) (Or.inr ⟨by rfl, rfl⟩) (by assumption) ?_
          try simp only [Act.put, n1, n2, n3, n4, n5, n6]
          refine tk 23 (v := ?_) ?_
          try simp only [Act.put, n1, n2, n3, n4, n5, n6]
          refine wpAnyH_done (by kernel_rfl) ?_ _
          have HQ := Lib.hid (HB.out.drew.trans (hb.mono HB.out.size))
          clear hb
          go_wp2
          go_ret
          exact ⟨ret_bool (by rw [HS.out, hd]; rfl), HQ.out⟩
        · by_cases hx : x0 < x
          · go_wp2_with fail
            refine wp_region_held_drew (S := fun w' => w'.cell? ⟨g, off + (j + 1) * 2, none⟩ = some (.int .i64 x) ∧ w'.cell? ⟨g, off + (j + 1) * 2 + 1, none⟩ = some (.int .i64 y) ∧ w'.cell? ⟨g, off + j * 2, none⟩ = some (.int .i64 x0)) (by kernel_rfl) (by first | go_keep | (go_split_ands; refine ⟨?_, ?_, ?_⟩ <;> (rw [hb.cell (by assumption)]; assumption))) (fun hHeld => ?_)
            refine tk 0 (v := ?_) ?_
            try simp only [Act.put, n1, n2, n3, n4, n5, n6]
            refine tk 1 (v := ?_) ?_
            try simp only [Act.put, n1, n2, n3, n4, n5, n6]
            refine tk 2 (v := ?_) ?_
            try simp only [Act.put, n1, n2, n3, n4, n5, n6]
            refine tk 3 (v := ?_) ?_
            try simp only [Act.put, n1, n2, n3, n4, n5, n6]
            refine wpAnyH_ready (rs := [4]) (by kernel_rfl) (by simp) ?_
            refine AllReadyH.cons rfl (fun K hK => ?_) AllReadyH.nil
            go_simp
            go_at_call 69; refine (spec_dot (x, y) _).mono ?_; rintro e w' ⟨rfl, hb⟩
            go_wp2_with fail
            refine hK.out _ _ (by first | go_keep | (go_split_ands; refine ⟨?_, ?_, ?_⟩ <;> (rw [hb.cell (by assumption)]; assumption))) (fun hHeld => ?_)
            clear hK K
            try simp only [Act.put, n1, n2, n3, n4, n5, n6]
            refine tk 5 (v := ?_) ?_
            try simp only [Act.put, n1, n2, n3, n4, n5, n6]
            refine tk 6 (v := ?_) ?_
            try simp only [Act.put, n1, n2, n3, n4, n5, n6]
            refine tk 7 (v := ?_) ?_
            try simp only [Act.put, n1, n2, n3, n4, n5, n6]
            refine tk 8 (v := ?_) ?_
            try simp only [Act.put, n1, n2, n3, n4, n5, n6]
            refine tk 9 (v := ?_) ?_
            try simp only [Act.put, n1, n2, n3, n4, n5, n6]
            refine tk 10 (v := ?_) ?_
            try simp only [Act.put, n1, n2, n3, n4, n5, n6]
            refine tk 11 (v := ?_) ?_
            try simp only [Act.put, n1, n2, n3, n4, n5, n6]
            refine tk 12 (v := ?_) ?_
            try simp only [Act.put, n1, n2, n3, n4, n5, n6]
            refine tk 13 (v := ?_) ?_
            try simp only [Act.put, n1, n2, n3, n4, n5, n6]
            refine tk 14 (v := ?_) ?_
            try simp only [Act.put, n1, n2, n3, n4, n5, n6]
            refine tk 15 (v := ?_) ?_
            try simp only [Act.put, n1, n2, n3, n4, n5, n6]
            refine tk 16 (v := ?_) ?_
            try simp only [Act.put, n1, n2, n3, n4, n5, n6]
            refine tk 17 (v := ?_) ?_
            try simp only [Act.put, n1, n2, n3, n4, n5, n6]
            refine tk 18 (v := ?_) ?_
            try simp only [Act.put, n1, n2, n3, n4, n5, n6]
            refine tk 19 (v := ?_) ?_
            try simp only [Act.put, n1, n2, n3, n4, n5, n6]
            refine tk 20 (v := ?_) ?_
            try simp only [Act.put, n1, n2, n3, n4, n5, n6]
            refine tk 21 (v := ?_) ?_
            try simp only [Act.put, n1, n2, n3, n4, n5, n6]
            refine tk 22 (v := ?_) ?_
            try simp only [Act.put, n1, n2, n3, n4, n5, n6]
            refine tk 23 (v := ?_) ?_
            try simp only [Act.put, n1, n2, n3, n4, n5, n6]
            refine wpAnyH_done (by kernel_rfl) ?_ _
            have HQ := Lib.hid (HB.out.drew.trans (hb.mono HB.out.size))
            clear hb
            go_wp2
            go_roundw
            case rel => exact ⟨j + 1 + 1, by omega, by omega, by go_num, by rw [HE.out, HS.out, hd, decide_eq_true hx]; rfl, HQ.out⟩
            case measure => go_light; simp [intOf]; omega
          · go_wp2_with fail
            refine wp_region_held_drew (S := fun w' => w'.cell? ⟨g, off + (j + 1) * 2, none⟩ = some (.int .i64 x) ∧ w'.cell? ⟨g, off + (j + 1) * 2 + 1, none⟩ = some (.int .i64 y) ∧ w'.cell? ⟨g, off + j * 2, none⟩ = some (.int .i64 x0)) (by kernel_rfl) (by first | go_keep | (go_split_ands; refine ⟨?_, ?_, ?_⟩ <;> (rw [hb.cell (by assumption)]; assumption))) (fun hHeld => ?_)
            refine tk 0 (v := ?_) ?_
            try simp only [Act.put, n1, n2, n3, n4, n5, n6]
            refine tk 1 (v := ?_) ?_
            try simp only [Act.put, n1, n2, n3, n4, n5, n6]
            refine tk 2 (v := ?_) ?_
            try simp only [Act.put, n1, n2, n3, n4, n5, n6]
            refine tk 3 (v := ?_) ?_
            try simp only [Act.put, n1, n2, n3, n4, n5, n6]
            refine wpAnyH_ready (rs := [4]) (by kernel_rfl) (by simp) ?_
            refine AllReadyH.cons rfl (fun K hK => ?_) AllReadyH.nil
            go_simp
            go_at_call 69; refine (spec_dot (x, y) _).mono ?_; rintro e w' ⟨rfl, hb⟩
            go_wp2_with fail
            refine hK.out _ _ (by first | go_keep | (go_split_ands; refine ⟨?_, ?_, ?_⟩ <;> (rw [hb.cell (by assumption)]; assumption))) (fun hHeld => ?_)
            clear hK K
            try simp only [Act.put, n1, n2, n3, n4, n5, n6]
            refine tk 5 (v := ?_) ?_
            try simp only [Act.put, n1, n2, n3, n4, n5, n6]
            refine tk 6 (v := ?_) ?_
            try simp only [Act.put, n1, n2, n3, n4, n5, n6]
            refine tk 7 (v := ?_) ?_
            try simp only [Act.put, n1, n2, n3, n4, n5, n6]
            refine tk 8 (v := ?_) ?_
            try simp only [Act.put, n1, n2, n3, n4, n5, n6]
            refine tk 9 (v := ?_) ?_
            try simp only [Act.put, n1, n2, n3, n4, n5, n6]
            refine tk 10 (v := ?_) ?_
            try simp only [Act.put, n1, n2, n3, n4, n5, n6]
            refine tk 11 (v := ?_) ?_
            try simp only [Act.put, n1, n2, n3, n4, n5, n6]
            refine tk 12 (v := ?_) ?_
            try simp only [Act.put, n1, n2, n3, n4, n5, n6]
            refine tk 13 (v := ?_) ?_
            try simp only [Act.put, n1, n2, n3, n4, n5, n6]
            refine tk 14 (v := ?_) ?_
            try simp only [Act.put, n1, n2, n3, n4, n5, n6]
            refine tk 15 (v := ?_) ?_
            try simp only [Act.put, n1, n2, n3, n4, n5, n6]
            refine tk 16 (v := ?_) ?_
            try simp only [Act.put, n1, n2, n3, n4, n5, n6]
            refine tk 17 (v := ?_) ?_
            try simp only [Act.put, n1, n2, n3, n4, n5, n6]
            refine tk 18 (v := ?_) ?_
            try simp only [Act.put, n1, n2, n3, n4, n5, n6]
            refine tk 19 (v := ?_) ?_
            try simp only [Act.put, n1, n2, n3, n4, n5, n6]
            refine tk 20 (v := ?_) ?_
            try simp only [Act.put, n1, n2, n3, n4, n5, n6]
            refine tk 21 (v := ?_) ?_
            try simp only [Act.put, n1, n2, n3, n4, n5, n6]
            refine tk 22 (v := ?_) ?_
            try simp only [Act.put, n1, n2, n3, n4, n5, n6]
            refine tk 23 (v := ?_) ?_
            try simp only [Act.put, n1, n2, n3, n4, n5, n6]
            refine wpAnyH_done (by kernel_rfl) ?_ _
            have HQ := Lib.hid (HB.out.drew.trans (hb.mono HB.out.size))
            clear hb
            go_wp2
            go_ret
            exact ⟨ret_bool (by rw [HS.out, hd, decide_eq_false (by omega)]; rfl), HQ.out⟩
    · have he := Lib.hid (right_end HR.out (by omega))
      have hor : (l.length : Int) ≤ (k : Int) ∨ ((k : Int) < (l.length : Int) ∧ (5 : Int) < (k : Int)) := by omega
      rcases hor with hor | ⟨hor, hor'⟩
      all_goals
        go_wp2
        all_goals go_ret
        all_goals exact ⟨ret_bool he.out, HB.out⟩

set_option maxRecDepth 100000 in
set_option maxHeartbeats 1000000 in
theorem spec_of (a : Option Addr) (cap : Nat) (l : List (Int × Int)) (n : Int) (w : World) (hl : l.length ≤ maxLen) (h : MarksAt w a l) :
    Calls Try.prog 57 #[.slice a l.length cap, .int .i64 n] w fun e w' => e = .returned (.int .i64 (ofL l n)) ∧ w = w' := by
  have H := Lib.hid h
  clear h
  unfold maxLen at hl
  go_enter Try.func57, Try.ntmps57
  go_wp2
  go_loop [5] (fun i => ∃ (k : Nat), k ≤ l.length ∧ i = .int .i64 k ∧ ofL l n = ofL (l.drop k) n) (fun i => l.length - (intOf i).toNat)
  case atStart => exact ⟨0, Nat.zero_le _, rfl, by simp⟩
  case round =>
    obtain ⟨k, hk, rfl, hr⟩ := hrel
    have HR := Lib.hid hr
    clear hr
    by_cases hlt : k < l.length
    · obtain ⟨g, off, rfl, hg, c0, c1⟩ := H.out.cells hlt
      have HS := Lib.hid (HR.out.trans (ofL_step l k n hlt))
      generalize l[k] = m at c0 c1 HS
      obtain ⟨x, y⟩ := m
      simp only at c0 c1
      by_cases hx : x = n
      · have hx2 : (x == n) = true := by simpa using hx
        have HX := Lib.hid hx
        clear hx
        go_wp2
        go_ret
        exact ⟨ret_i64 (by rw [HS.out, if_pos HX.out]), rfl⟩
      · have hx2 : (x == n) = false := by simpa using hx
        have HX := Lib.hid hx
        clear hx
        go_wp2
        go_round
        case rel => exact ⟨k + 1, by omega, by go_num, by rw [HS.out, if_neg HX.out]⟩
        case measure => go_light; simp [intOf]; omega
    · go_wp2
      go_ret
      exact ⟨ret_i64 (by rw [HR.out, ofL_end l k n (by omega)]), rfl⟩
end Go.Proofs.Ytiphlffcgjdoaaa.Mk

namespace Go.Proofs.Ytiphlffcgjdoaaa.Mk
open Go.RowKit

set_option maxRecDepth 100000 in
set_option maxHeartbeats 1000000 in
theorem spec_seenHas (a : Option Addr) (cap : Nat) (l : List (Int × Int)) (m : Int × Int) (w : World) (hl : l.length ≤ maxLen) (h : MarksAt w a l) :
    Calls Try.prog 25 #[.slice a l.length cap, mv m] w fun e w' => e = .returned (.bool (hasB l m)) ∧ Below w.heap.size w w' := by
  have H := Lib.hid h
  clear h
  cases hr : rightB l
  · have HH := Lib.hid (show hasB l m = false by unfold hasB; rw [hr]; rfl)
    obtain ⟨x, y⟩ := m
    unfold mv
    go_enter Try.func25, Try.ntmps25
    go_wp2_with fail
    refine wp_region_held_drew (S := fun w' => w'.cell? ⟨w.heap.size, 0, none⟩ = some (.int .i64 x) ∧ w'.cell? ⟨w.heap.size, 1, none⟩ = some (.int .i64 y) ∧ w.heap.size < w'.heap.size) (by kernel_rfl) (by first | (simp [*]; done) | (go_split_ands; refine ⟨?_, ?_, ?_⟩; (rw [hb.cell (by first | (simp; done) | assumption)]; assumption); (rw [hb.cell (by first | (simp; done) | assumption)]; assumption); (have := hb.size; simp at this ⊢; omega))) (fun hHeld => ?_)
    refine tk 0 (v := ?_) ?_
    try simp only [Act.put, n1, n2, n3, n4, n5, n6]
    refine wpAnyH_ready (rs := [1]) (by kernel_rfl) (by simp) ?_
    refine AllReadyH.cons rfl (fun K hK => ?_) AllReadyH.nil
    go_simp
    go_at_call 54; refine (spec_seenRight a cap l _ hl (H.out.mono ((Below.refl _ w).alloc (Nat.le_refl _) _).drew)).mono ?_; rintro e w1 ⟨rfl, hb⟩; have HB1 := Lib.hid (((Below.refl _ w).alloc (Nat.le_refl _) _).drew.trans (hb.mono (by simp)))
    go_wp2_with fail
    refine hK.out _ _ (by first | (simp [*]; done) | (go_split_ands; refine ⟨?_, ?_, ?_⟩; (rw [hb.cell (by first | (simp; done) | assumption)]; assumption); (rw [hb.cell (by first | (simp; done) | assumption)]; assumption); (have := hb.size; simp at this ⊢; omega))) (fun hHeld => ?_)
    clear hK K
    try simp only [Act.put, n1, n2, n3, n4, n5, n6]
    refine tk 2 (v := ?_) ?_
    try simp only [Act.put, n1, n2, n3, n4, n5, n6]
    refine wpAnyH_take (i := 3) (v := undef) rfl (by kernel_rfl) (by kernel_rfl) (by kernel_rfl) (fun _ _ _ h => h) (Or.inr ⟨by rfl, rfl⟩) (by assumption) ?_
    try simp only [Act.put, n1, n2, n3, n4, n5, n6]
    refine wpAnyH_take (i := 4) (v := undef) rfl (by kernel_rfl) (by kernel_rfl) (by kernel_rfl) (fun _ _ _ h => h) (Or.inr ⟨by rfl, rfl⟩) (by assumption) ?_
    try simp only [Act.put, n1, n2, n3, n4, n5, n6]
    refine tk 5 (v := ?_) ?_
    try simp only [Act.put, n1, n2, n3, n4, n5, n6]
    refine tk 6 (v := ?_) ?_
    try simp only [Act.put, n1, n2, n3, n4, n5, n6]
    refine wpAnyH_take (i := 7) (v := undef) rfl (by kernel_rfl) (by kernel_rfl) (by kernel_rfl) (fun _ _ _ h => h) (Or.inr ⟨by rfl, rfl⟩) (by assumption) ?_
    try simp only [Act.put, n1, n2, n3, n4, n5, n6]
    refine wpAnyH_take (i := 8) (v := undef) rfl (by kernel_rfl) (by kernel_rfl) (by kernel_rfl) (fun _ _ _ h => h) (Or.inr ⟨by rfl, rfl⟩) (by assumption) ?_
    try simp only [Act.put, n1, n2, n3, n4, n5, n6]
    refine wpAnyH_take (i := 9) (v := undef) rfl (by kernel_rfl) (by kernel_rfl) (by kernel_rfl) (fun _ _ _ h => h) (Or.inr ⟨by rfl, rfl⟩) (by assumption) ?_
    try simp only [Act.put, n1, n2, n3, n4, n5, n6]
    refine wpAnyH_take (i := 10) (v := undef) rfl (by kernel_rfl) (by kernel_rfl) (by kernel_rfl) (fun _ _ _ h => h) (Or.inr ⟨by rfl, rfl⟩) (by assumption) ?_
    try simp only [Act.put, n1, n2, n3, n4, n5, n6]
    refine wpAnyH_take (i := 11) (v := undef) rfl (by kernel_rfl) (by kernel_rfl) (by kernel_rfl) (fun _ _ _ h => h) (Or.inr ⟨by rfl, rfl⟩) (by assumption) ?_
    try simp only [Act.put, n1, n2, n3, n4, n5, n6]
    refine wpAnyH_take (i := 12) (v := undef) rfl (by kernel_rfl) (by kernel_rfl) (by kernel_rfl) (fun _ _ _ h => h) (Or.inr ⟨by rfl, rfl⟩) (by assumption) ?_
    try simp only [Act.put, n1, n2, n3, n4, n5, n6]
    refine wpAnyH_take (i := 13) (v := undef) rfl (by kernel_rfl) (by kernel_rfl) (by kernel_rfl) (fun _ _ _ h => h) (Or.inr ⟨by rfl, rfl⟩) (by assumption) ?_
    try simp only [Act.put, n1, n2, n3, n4, n5, n6]
    refine tk 14 (v := ?_) ?_
    try simp only [Act.put, n1, n2, n3, n4, n5, n6]
    refine tk 15 (v := ?_) ?_
    try simp only [Act.put, n1, n2, n3, n4, n5, n6]
    refine wpAnyH_done (by kernel_rfl) ?_ _
    go_wp2
    go_ret
    exact ⟨ret_bool HH.out.symm, HB1.out⟩
  cases hd : dotB m
  · have HH := Lib.hid (show hasB l m = false by unfold hasB; rw [hd]; simp)
    obtain ⟨x, y⟩ := m
    unfold mv
    go_enter Try.func25, Try.ntmps25
    go_wp2_with fail
    refine wp_region_held_drew (S := fun w' => w'.cell? ⟨w.heap.size, 0, none⟩ = some (.int .i64 x) ∧ w'.cell? ⟨w.heap.size, 1, none⟩ = some (.int .i64 y) ∧ w.heap.size < w'.heap.size) (by kernel_rfl) (by first | (simp [*]; done) | (go_split_ands; refine ⟨?_, ?_, ?_⟩; (rw [hb.cell (by first | (simp; done) | assumption)]; assumption); (rw [hb.cell (by first | (simp; done) | assumption)]; assumption); (have := hb.size; simp at this ⊢; omega))) (fun hHeld => ?_)
    refine tk 0 (v := ?_) ?_
    try simp only [Act.put, n1, n2, n3, n4, n5, n6]
    refine wpAnyH_ready (rs := [1]) (by kernel_rfl) (by simp) ?_
    refine AllReadyH.cons rfl (fun K hK => ?_) AllReadyH.nil
    go_simp
    go_at_call 54; refine (spec_seenRight a cap l _ hl (H.out.mono ((Below.refl _ w).alloc (Nat.le_refl _) _).drew)).mono ?_; rintro e w1 ⟨rfl, hb⟩; have HB1 := Lib.hid (((Below.refl _ w).alloc (Nat.le_refl _) _).drew.trans (hb.mono (by simp)))
    go_wp2_with fail
    refine hK.out _ _ (by first | (simp [*]; done) | (go_split_ands; refine ⟨?_, ?_, ?_⟩; (rw [hb.cell (by first | (simp; done) | assumption)]; assumption); (rw [hb.cell (by first | (simp; done) | assumption)]; assumption); (have := hb.size; simp at this ⊢; omega))) (fun hHeld => ?_)
    clear hK K
    try simp only [Act.put, n1, n2, n3, n4, n5, n6]
    refine tk 2 (v := ?_) ?_
    try simp only [Act.put, n1, n2, n3, n4, n5, n6]
    refine tk 3 (v := ?_) ?_
    try simp only [Act.put, n1, n2, n3, n4, n5, n6]
    refine wpAnyH_ready (rs := [4]) (by kernel_rfl) (by simp) ?_
    refine AllReadyH.cons rfl (fun K hK => ?_) AllReadyH.nil
    go_simp
    go_at_call 69; refine (spec_dot (x, y) _).mono ?_; rintro e w2 ⟨rfl, hb⟩; have HB2 := Lib.hid (HB1.out.trans (hb.mono HB1.out.size))
    go_wp2_with fail
    refine hK.out _ _ (by first | (simp [*]; done) | (go_split_ands; refine ⟨?_, ?_, ?_⟩; (rw [hb.cell (by first | (simp; done) | assumption)]; assumption); (rw [hb.cell (by first | (simp; done) | assumption)]; assumption); (have := hb.size; simp at this ⊢; omega))) (fun hHeld => ?_)
    clear hK K
    try simp only [Act.put, n1, n2, n3, n4, n5, n6]
    refine tk 5 (v := ?_) ?_
    try simp only [Act.put, n1, n2, n3, n4, n5, n6]
    refine tk 6 (v := ?_) ?_
    try simp only [Act.put, n1, n2, n3, n4, n5, n6]
    refine wpAnyH_take (i := 7) (v := undef) rfl (by kernel_rfl) (by kernel_rfl) (by kernel_rfl) (fun _ _ _ h => h) (Or.inr ⟨by rfl, rfl⟩) (by assumption) ?_
    try simp only [Act.put, n1, n2, n3, n4, n5, n6]
    refine wpAnyH_take (i := 8) (v := undef) rfl (by kernel_rfl) (by kernel_rfl) (by kernel_rfl) (fun _ _ _ h => h) (Or.inr ⟨by rfl, rfl⟩) (by assumption) ?_
    try simp only [Act.put, n1, n2, n3, n4, n5, n6]
    refine wpAnyH_take (i := 9) (v := undef) rfl (by kernel_rfl) (by kernel_rfl) (by kernel_rfl) (fun _ _ _ h => h) (Or.inr ⟨by rfl, rfl⟩) (by assumption) ?_
    try simp only [Act.put, n1, n2, n3, n4, n5, n6]
    refine wpAnyH_take (i := 10) (v := undef) rfl (by kernel_rfl) (by kernel_rfl) (by kernel_rfl) (fun _ _ _ h => h) (Or.inr ⟨by rfl, rfl⟩) (by assumption) ?_
    try simp only [Act.put, n1, n2, n3, n4, n5, n6]
    refine wpAnyH_take (i := 11) (v := undef) rfl (by kernel_rfl) (by kernel_rfl) (by kernel_rfl) (fun _ _ _ h => h) (Or.inr ⟨by rfl, rfl⟩) (by assumption) ?_
    try simp only [Act.put, n1, n2, n3, n4, n5, n6]
    refine wpAnyH_take (i := 12) (v := undef) rfl (by kernel_rfl) (by kernel_rfl) (by kernel_rfl) (fun _ _ _ h => h) (Or.inr ⟨by rfl, rfl⟩) (by assumption) ?_
    try simp only [Act.put, n1, n2, n3, n4, n5, n6]
    refine wpAnyH_take (i := 13) (v := undef) rfl (by kernel_rfl) (by kernel_rfl) (by kernel_rfl) (fun _ _ _ h => h) (Or.inr ⟨by rfl, rfl⟩) (by assumption) ?_
    try simp only [Act.put, n1, n2, n3, n4, n5, n6]
    refine tk 14 (v := ?_) ?_
    try simp only [Act.put, n1, n2, n3, n4, n5, n6]
    refine tk 15 (v := ?_) ?_
    try simp only [Act.put, n1, n2, n3, n4, n5, n6]
    refine wpAnyH_done (by kernel_rfl) ?_ _
    go_wp2
    go_ret
    exact ⟨ret_bool HH.out.symm, HB2.out⟩
  · have HH := Lib.hid (show hasB l m = decide (m.2 ≤ ofL l m.1) by unfold hasB; rw [hd, hr]; simp)
    obtain ⟨x, y⟩ := m
    unfold mv
    go_enter Try.func25, Try.ntmps25
    go_wp2_with fail
    refine wp_region_held_drew (S := fun w' => w'.cell? ⟨w.heap.size, 0, none⟩ = some (.int .i64 x) ∧ w'.cell? ⟨w.heap.size, 1, none⟩ = some (.int .i64 y) ∧ w.heap.size < w'.heap.size) (by kernel_rfl) (by first | assumption | (simp [*]; done) | (go_split_ands; refine ⟨?_, ?_, ?_⟩; (rw [hb.cell (by first | (simp; done) | assumption)]; assumption); (rw [hb.cell (by first | (simp; done) | assumption)]; assumption); (have := hb.size; simp at this ⊢; omega))) (fun hHeld => ?_)
    refine tk 0 (v := ?_) ?_
    try simp only [Act.put, n1, n2, n3, n4, n5, n6]
    refine wpAnyH_ready (rs := [1]) (by kernel_rfl) (by simp) ?_
    refine AllReadyH.cons rfl (fun K hK => ?_) AllReadyH.nil
    go_simp
    go_at_call 54; refine (spec_seenRight a cap l _ hl (H.out.mono ((Below.refl _ w).alloc (Nat.le_refl _) _).drew)).mono ?_; rintro e w1 ⟨rfl, hb⟩; have HB1 := Lib.hid (((Below.refl _ w).alloc (Nat.le_refl _) _).drew.trans (hb.mono (by simp)))
    go_wp2_with fail
    refine hK.out _ _ (by first | assumption | (simp [*]; done) | (go_split_ands; refine ⟨?_, ?_, ?_⟩; (rw [hb.cell (by first | (simp; done) | assumption)]; assumption); (rw [hb.cell (by first | (simp; done) | assumption)]; assumption); (have := hb.size; simp at this ⊢; omega))) (fun hHeld => ?_)
    clear hK K
    try simp only [Act.put, n1, n2, n3, n4, n5, n6]
    refine tk 2 (v := ?_) ?_
    try simp only [Act.put, n1, n2, n3, n4, n5, n6]
    refine tk 3 (v := ?_) ?_
    try simp only [Act.put, n1, n2, n3, n4, n5, n6]
    refine wpAnyH_ready (rs := [4]) (by kernel_rfl) (by simp) ?_
    refine AllReadyH.cons rfl (fun K hK => ?_) AllReadyH.nil
    go_simp
    go_at_call 69; refine (spec_dot (x, y) _).mono ?_; rintro e w2 ⟨rfl, hb⟩; have HB2 := Lib.hid (HB1.out.trans (hb.mono HB1.out.size))
    go_wp2_with fail
    refine hK.out _ _ (by first | assumption | (simp [*]; done) | (go_split_ands; refine ⟨?_, ?_, ?_⟩; (rw [hb.cell (by first | (simp; done) | assumption)]; assumption); (rw [hb.cell (by first | (simp; done) | assumption)]; assumption); (have := hb.size; simp at this ⊢; omega))) (fun hHeld => ?_)
    clear hK K
    try simp only [Act.put, n1, n2, n3, n4, n5, n6]
    refine tk 5 (v := ?_) ?_
    try simp only [Act.put, n1, n2, n3, n4, n5, n6]
    refine tk 6 (v := ?_) ?_
    try simp only [Act.put, n1, n2, n3, n4, n5, n6]
    refine tk 7 (v := ?_) ?_
    try simp only [Act.put, n1, n2, n3, n4, n5, n6]
    refine tk 8 (v := ?_) ?_
    try simp only [Act.put, n1, n2, n3, n4, n5, n6]
    refine tk 9 (v := ?_) ?_
    try simp only [Act.put, n1, n2, n3, n4, n5, n6]
    refine tk 10 (v := ?_) ?_
    try simp only [Act.put, n1, n2, n3, n4, n5, n6]
    refine tk 11 (v := ?_) ?_
    try simp only [Act.put, n1, n2, n3, n4, n5, n6]
    refine wpAnyH_ready (rs := [12]) (by kernel_rfl) (by simp) ?_
    refine AllReadyH.cons rfl (fun K hK => ?_) AllReadyH.nil
    go_simp
    go_at_call 57; refine (spec_of a cap l x _ hl (H.out.mono HB2.out)).mono ?_; rintro e w3 ⟨rfl, rfl⟩
    go_wp2_with fail
    refine hK.out _ _ (by first | assumption | (simp [*]; done) | (go_split_ands; refine ⟨?_, ?_, ?_⟩; (rw [hb.cell (by first | (simp; done) | assumption)]; assumption); (rw [hb.cell (by first | (simp; done) | assumption)]; assumption); (have := hb.size; simp at this ⊢; omega))) (fun hHeld => ?_)
    clear hK K
    try simp only [Act.put, n1, n2, n3, n4, n5, n6]
    refine tk 13 (v := ?_) ?_
    try simp only [Act.put, n1, n2, n3, n4, n5, n6]
    refine tk 14 (v := ?_) ?_
    try simp only [Act.put, n1, n2, n3, n4, n5, n6]
    refine tk 15 (v := ?_) ?_
    try simp only [Act.put, n1, n2, n3, n4, n5, n6]
    refine wpAnyH_done (by kernel_rfl) ?_ _
    go_wp2
    go_ret
    exact ⟨ret_bool HH.out.symm, HB2.out⟩
end Go.Proofs.Ytiphlffcgjdoaaa.Mk
