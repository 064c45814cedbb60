/- Parts of a law: SibLess, SpecIn, SetOut2, GivesRow, InsMath, SibOrder, MarkMap, SeenI, SeenMap. Conditions: on sizes, as each says. -/
import Derived.Test.YtiphlffcgjdoaaaZ1
import Derived.Test.YtiphlffcgjdoaaaZ2
import Derived.Deep.RegionHeld3
import Derived.Maps.OwnSet
import Derived.Maps.RangeWalk
set_option linter.unusedSimpArgs false
set_option linter.unusedVariables false
namespace Go.Proofs.Ytiphlffcgjdoaaa.Sb
open Go.RowKit Go.Proofs.Ytiphlffcgjdoaaa.Mk

set_option maxRecDepth 100000 in
theorem spec_less (a b : Int × Int) (w : World) : Calls Try.prog 68 #[mv a, mv b] w fun e w' => e = .returned (.bool (lessB a b)) ∧ Below w.heap.size w w' := by
  obtain ⟨x, y⟩ := a
  obtain ⟨u, v⟩ := b
  unfold mv
  dsimp only
  rcases Int.lt_trichotomy x u with h | h | h
  · have e : lessB (x, y) (u, v) = true := by unfold lessB; simp [h]
    rw [e]; clear e
    go_enter Try.func68, Try.ntmps68
    go_wp2
    all_goals go_ret
    all_goals exact ⟨rfl, ((Below.refl _ _).alloc (Nat.le_refl _) _).alloc (by simp) _⟩
  · subst h
    have e : lessB (x, y) (x, v) = decide (y < v) := by unfold lessB; simp
    rw [e]; clear e
    by_cases h2 : y < v
    · rw [decide_eq_true h2]
      go_enter Try.func68, Try.ntmps68
      go_wp2
      all_goals go_ret
      all_goals exact ⟨ret_bool (by simp_all), ((Below.refl _ _).alloc (Nat.le_refl _) _).alloc (by simp) _⟩
    · rw [decide_eq_false h2]
      go_enter Try.func68, Try.ntmps68
      go_wp2
      all_goals go_ret
      all_goals exact ⟨ret_bool (by simp_all), ((Below.refl _ _).alloc (Nat.le_refl _) _).alloc (by simp) _⟩
  · have e : lessB (x, y) (u, v) = false := by unfold lessB; simp; omega
    have h1 : ¬ x < u := by omega
    have h2 : (x == u) = false := by simp; omega
    rw [e]; clear e
    go_enter Try.func68, Try.ntmps68
    go_wp2
    all_goals go_ret
    all_goals exact ⟨ret_bool (by simp_all), ((Below.refl _ _).alloc (Nat.le_refl _) _).alloc (by simp) _⟩

theorem toList_size (d : ByteArray) : d.toList = [] ↔ d.size = 0 := by
  rw [ByteArray.toList_eq, Array.toList_eq_nil_iff]
  show d.data = #[] ↔ d.data.size = 0
  rw [Array.size_eq_zero_iff]
theorem empty_no {d : ByteArray} (h : ¬ d.size = 0) : d.toList.isEmpty = false := by
  have : ¬ d.toList = [] := fun q => h ((toList_size d).1 q)
  simpa using this
theorem empty_yes {d : ByteArray} (h : d.size = 0) : d.toList.isEmpty = true := by rw [(toList_size d).2 h]; rfl
set_option maxRecDepth 100000 in
theorem contentRight (d : ByteArray) (g : Bool) (w : World) (hd : d.size ≤ maxLen) : Calls Try.prog 39 #[.string d, .bool g] w fun e w' => e = .returned (.bool (contB d g)) ∧ w = w' := by
  unfold maxLen at hd
  by_cases h : d.size ≤ 16
  · have e : contB d g = (!g || decide (d.size = 0)) := by unfold contB; simp [h]
    rw [e]; clear e
    have h' : (d.size : Int) ≤ 16 := by omega
    cases g
    · go_enter Try.func39, Try.ntmps39
      go_wp2
      all_goals go_ret
      all_goals exact ⟨rfl, rfl⟩
    · by_cases h0 : d.size = 0
      · have h1 : d.toList = [] := (toList_size d).2 h0
        go_enter Try.func39, Try.ntmps39
        go_wp2
        all_goals go_ret
        all_goals exact ⟨ret_bool (by simp_all), rfl⟩
      · have h1 : ¬ d.toList = [] := fun k => h0 ((toList_size d).1 k)
        go_enter Try.func39, Try.ntmps39
        go_wp2
        all_goals go_ret
        all_goals exact ⟨ret_bool (by simp_all), rfl⟩
  · have e : contB d g = false := by unfold contB; simp [h]
    have h' : (16 : Int) < (d.size : Int) := by omega
    rw [e]; clear e
    go_enter Try.func39, Try.ntmps39
    go_wp2
    all_goals go_ret
    all_goals exact ⟨rfl, rfl⟩
end Go.Proofs.Ytiphlffcgjdoaaa.Sb

namespace Go.Proofs.Ytiphlffcgjdoaaa.Sb
open Go.RowKit Go.Proofs.Ytiphlffcgjdoaaa.Mk Go.Proofs.Ytiphlffcgjdoaaa.Rw

/-- a Sib among others, in its place -/
def ins (s : List Sib) (x : Sib) : List Sib := s.take (pos s x.1) ++ x :: s.drop (pos s x.1)
/-- a slice's head: nil, or an address and room -/
def Head (a : Option Addr) (n cap : Nat) : Prop := (a = none ∧ n = 0 ∧ cap = 0) ∨ ∃ g off, a = some ⟨g, off, none⟩ ∧ n ≤ cap ∧ cap ≤ maxLen
/-- what a call that makes a slice of Sibs leaves, with the slice's head -/
def SGivesH (w : World) (l : List Sib) (e : Ending) (w' : World) : Prop :=
  ∃ a cap, e = .returned (.slice a l.length cap) ∧ Head a l.length cap ∧ SOwnIn w' w.heap.size w'.heap.size a l ∧ Below w.heap.size w w'
/-- .. and with its room -/
def SGivesR (w : World) (l : List Sib) (e : Ending) (w' : World) : Prop :=
  ∃ a cap, e = .returned (.slice a l.length cap) ∧ Head a l.length cap ∧ SOwnIn w' w.heap.size w'.heap.size a l ∧ w'.ownsRow (w.heap.size + 1) 48 4 (.slice a l.length cap) l.length (flatE 4 senc l) ∧ Below w.heap.size w w'
theorem own_head {w : World} {B n : Nat} {v : Value} {l : List Sib} (h : w.ownsRow B 48 4 v n (flatE 4 senc l)) : ∃ a cap, v = .slice a l.length cap ∧ Head a l.length cap ∧ SOwnIn w B w.heap.size a l := by
  obtain ⟨a, cap, hv, ho⟩ := own_row (by decide) h
  refine ⟨a, cap, hv, ?_, ho⟩
  obtain ⟨hlen, hc⟩ := h
  rw [flatE_length] at hlen
  rcases hc with ⟨h1, h0⟩ | ⟨g, cp, cur, h1, hg, hh, hn, hm, hs, ht⟩
  · rw [h1] at hv
    simp at hv
    exact .inl ⟨hv.1.symm, by omega, hv.2.2.symm⟩
  · rw [h1] at hv
    simp at hv
    exact .inr ⟨g, 0, hv.1.symm, by omega, by rw [← hv.2.2]; exact hm⟩
theorem flat_one {l : List Sib} : ∀ u ∈ flatE 4 senc l, u.oneCell' = true := by
  intro u hu
  unfold flatE at hu
  obtain ⟨x, _, hx⟩ := List.mem_flatMap.1 hu
  obtain ⟨j, hj, rfl⟩ := List.mem_map.1 hx
  have hj4 : j < 4 := List.mem_range.1 hj
  match j, hj4 with
  | 0, _ => rfl
  | 1, _ => rfl
  | 2, _ => rfl
  | 3, _ => rfl
/-- the cells of a row, one behind the other -/
theorem row_flat {α : Type} {k : Nat} {enc : α → Nat → Value} {w : World} {g off : Nat} {l : List α} (hk : 0 < k) (h : RowAt k enc w (some ⟨g, off, none⟩) l) : ∀ j u, (flatE k enc l)[j]? = some u → w.cell? ((⟨g, off, none⟩ : Addr).add j) = some u := by
  intro j u hu
  have e : (⟨g, off, none⟩ : Addr).add j = ⟨g, off + j, none⟩ := by unfold Addr.add; split <;> simp_all
  rw [e]
  have hj : j < l.length * k := by
    have := (List.getElem?_eq_some_iff.1 hu).1
    rwa [flatE_length] at this
  have hd := Nat.div_add_mod j k
  have hm := Nat.mod_lt j hk
  have hi : j / k < l.length := Nat.div_lt_of_lt_mul (by rwa [Nat.mul_comm])
  have hg := flatE_get (enc := enc) l (j / k) hi (j % k) hm
  have ej : j / k * k + j % k = j := by rw [Nat.mul_comm]; exact hd
  rw [ej] at hg
  rw [hg] at hu
  rcases h with rfl | ⟨g2, off2, ha, hc⟩
  · cases hi
  · obtain ⟨rfl, rfl⟩ : g = g2 ∧ off = off2 := by simpa using ha
    have := hc (j / k) hi (j % k) hm
    rw [Nat.add_assoc, ej] at this
    rw [this]; exact hu
/-- Sibs appended to a row of the call's own -/
theorem wpList_append_sibs (w0 : World) {ops : Array Oper} {rest : List Oper} {o : Oper} {a : Act} {Q : Exit → Act → World → Prop} (hg : o.guard = none) (s x : Operand)
    (hop : o.op = .call { callee := .builtin .append, args := #[s, x], argTypes := #[24, 24] }) (B : Nat) (v : Value) (l l2 : List Sib) (hs : a.eval s = v) (g off n cap : Nat) (hn : l2.length = n)
    (hx : a.eval x = .slice (some ⟨g, off, none⟩) n cap) (hown : w0.ownsRow B 48 4 v l.length (flatE 4 senc l)) (hrow : SibsAt w0 (some ⟨g, off, none⟩) l2) (hl : l.length + l2.length ≤ 1000000) (hB : B ≤ w0.heap.size)
    (h : ∀ v' w', w'.ownsRow B 48 4 v' (l ++ l2).length (flatE 4 senc (l ++ l2)) → Below B w0 w' → wpList Try.prog ops Q rest (a.put o.dst v') w') :
    wpList Try.prog ops Q (o :: rest) a w0 := by
  subst hn
  obtain ⟨i0, hi, hz0, hz1, hz2⟩ := info_parts infoS
  refine wpList_append_own _ hg s x 24 hop B 48 i0 _ 4 40 Try.underlying24 hi hz0 hz1 hz2 rfl (by decide) v l.length (flatE 4 senc l) hs hown ⟨g, off, none⟩ l2.length cap (flatE 4 senc l2) hx (by rw [flatE_length])
    (row_flat (by decide) hrow) flat_one (by unfold maxLen; omega) (by omega) hB (fun v' w' h1 h2 _ => h v' w' ?_ ?_)
  · rw [flatE_append, List.length_append]; exact h1
  · exact (Below.refl B w0).grown h2 hB (fun k hk => (hown.lt k hk).1)
theorem own_cap {w : World} {B : Nat} {v : Value} {x : Sib} (h : w.ownsRow B 48 4 v ([] ++ [x]).length (flatE 4 senc ([] ++ [x]))) : ∃ g cap, v = .slice (some ⟨g, 0, none⟩) 1 cap ∧ 1 ≤ cap := by
  obtain ⟨_, hc⟩ := h
  rcases hc with ⟨_, h0⟩ | ⟨g, cap, cur, rfl, hg, hh, hn, _⟩
  · simp at h0
  · exact ⟨g, cap, rfl, by simpa using hn⟩
theorem sibs_take {w : World} {g off : Nat} {s : List Sib} (k : Nat) (h : SibsAt w (some ⟨g, off, none⟩) s) : SibsAt w (some ⟨g, off, none⟩) (s.take k) := by
  rcases h with rfl | ⟨g2, off2, ha, hc⟩
  · exact .inl (by simp)
  · exact .inr ⟨g2, off2, ha, fun i hi j hj => by
      have hi' : i < s.length := by rw [List.length_take] at hi; omega
      rw [hc i hi' j hj, List.getElem_take]⟩
theorem sibs_drop {w : World} {g off : Nat} {s : List Sib} (k : Nat) (h : SibsAt w (some ⟨g, off, none⟩) s) : SibsAt w (some ⟨g, off + k * 4, none⟩) (s.drop k) := by
  rcases h with rfl | ⟨g2, off2, ha, hc⟩
  · exact .inl (by simp)
  · obtain ⟨rfl, rfl⟩ : g = g2 ∧ off = off2 := by simpa using ha
    exact .inr ⟨g, off + k * 4, rfl, fun i hi j hj => by
      have hi' : k + i < s.length := by rw [List.length_drop] at hi; omega
      have := hc (k + i) hi' j hj
      rw [show off + k * 4 + i * 4 + j = off + (k + i) * 4 + j by omega, this, List.getElem_drop]⟩
theorem size4 (W : World) : (sizeOf (Try.prog.elem 24)).run Try.prog W = .ok 4 W := by kernel_rfl
set_option maxRecDepth 100000 in
set_option maxHeartbeats 2000000 in
theorem spec_in_row (a : Option Addr) (cap : Nat) (s : List Sib) (x : Sib) (w : World) (hs : s.length ≤ 1000) (hh : Head a s.length cap) (h' : SibsAt w a s) :
    Calls Try.prog 58 #[.slice a s.length cap, sv x] w (SGivesR w (ins s x)) := by
  have H' := Lib.hid h'
  clear h'
  obtain ⟨⟨tn, tm⟩, tg, td⟩ := x
  unfold sv
  dsimp only
  have hb0 := Lib.hid (step_alloc w (.cells #[.int .i64 tn, .int .i64 tm, .bool tg, .string td] 48))
  go_enter Try.func58, Try.ntmps58
  go_wp2
  go_loopw [5] (fun p wr => ∃ (k : Nat), k ≤ s.length ∧ p = .int .i64 k ∧ (∀ r, r < k → lessB (s.getD r z0).1 (tn, tm) = true) ∧ Below (w.heap.size + 1) (w.alloc (.cells #[.int .i64 tn, .int .i64 tm, .bool tg, .string td] 48)) wr) (fun p _ => s.length - (intOf p).toNat)
  case atStart => exact ⟨0, by omega, rfl, fun r h => by omega, Below.refl _ _⟩
  case round =>
    obtain ⟨k, hk, rfl, hlo, hbel⟩ := hrel
    have HLO := Lib.hid hlo
    have HB := Lib.hid hbel
    have HW := Lib.hid (hb0.out.trans (hbel.mono (by simp)))
    have hwz : w.heap.size < wr.heap.size := by have := hbel.size; simp at this; omega
    have hbc := (Cells.new w #[.int .i64 tn, .int .i64 tm, .bool tg, .string td] 48).below (hbel.mono (by simp))
    obtain ⟨b0, b1, b2, b3, _⟩ := hbc.c4
    replace hbc := Lib.hid hbc
    clear hlo hbel
    by_cases hlt : k < s.length
    rotate_left
    · have hge : ¬ (k : Int) < (s.length : Int) := by omega
      have HP := Lib.hid (pos_unique s (tn, tm) k hk HLO.out (fun h => absurd h hlt))
      go_wp2_with fail
      refine wp_region_held_drew (S := fun w' => True) (by kernel_rfl) (by trivial) (fun hHeld => ?_)
      refine tk 0 (v := ?_) ?_
      try simp only [Act.put, n1, n2, n3, n4, n5, n6]
      refine tk 1 (v := ?_) ?_
      try simp only [Act.put, n1, n2, n3, n4, n5, n6]
      refine tk 2 (v := ?_) ?_
      try simp only [Act.put, n1, n2, n3, n4, n5, n6]
      refine tk 3 (v := ?_) ?_
      try simp only [Act.put, n1, n2, n3, n4, n5, n6]
      refine tk 4 (v := ?_) ?_
      try simp only [Act.put, n1, n2, n3, n4, n5, n6]
      refine wpAnyH_take (i := 5) (v := undef) rfl (by kernel_rfl) (by kernel_rfl) (by kernel_rfl) (fun _ _ _ h => h) (Or.inr ⟨by rfl, rfl⟩) (by assumption) ?_
      try simp only [Act.put, n1, n2, n3, n4, n5, n6]
      refine wpAnyH_take (i := 6) (v := undef) rfl (by kernel_rfl) (by kernel_rfl) (by kernel_rfl) (fun _ _ _ h => h) (Or.inr ⟨by rfl, rfl⟩) (by assumption) ?_
      try simp only [Act.put, n1, n2, n3, n4, n5, n6]
      refine wpAnyH_take (i := 7) (v := undef) rfl (by kernel_rfl) (by kernel_rfl) (by kernel_rfl) (fun _ _ _ h => h) (Or.inr ⟨by rfl, rfl⟩) (by assumption) ?_
      try simp only [Act.put, n1, n2, n3, n4, n5, n6]
      refine wpAnyH_take (i := 8) (v := undef) rfl (by kernel_rfl) (by kernel_rfl) (by kernel_rfl) (fun _ _ _ h => h) (Or.inr ⟨by rfl, rfl⟩) (by assumption) ?_
      try simp only [Act.put, n1, n2, n3, n4, n5, n6]
      refine wpAnyH_take (i := 9) (v := undef) rfl (by kernel_rfl) (by kernel_rfl) (by kernel_rfl) (fun _ _ _ h => h) (Or.inr ⟨by rfl, rfl⟩) (by assumption) ?_
      try simp only [Act.put, n1, n2, n3, n4, n5, n6]
      refine wpAnyH_take (i := 10) (v := undef) rfl (by kernel_rfl) (by kernel_rfl) (by kernel_rfl) (fun _ _ _ h => h) (Or.inr ⟨by rfl, rfl⟩) (by assumption) ?_
      try simp only [Act.put, n1, n2, n3, n4, n5, n6]
      refine wpAnyH_take (i := 11) (v := undef) rfl (by kernel_rfl) (by kernel_rfl) (by kernel_rfl) (fun _ _ _ h => h) (Or.inr ⟨by rfl, rfl⟩) (by assumption) ?_
      try simp only [Act.put, n1, n2, n3, n4, n5, n6]
      refine wpAnyH_take (i := 12) (v := undef) rfl (by kernel_rfl) (by kernel_rfl) (by kernel_rfl) (fun _ _ _ h => h) (Or.inr ⟨by rfl, rfl⟩) (by assumption) ?_
      try simp only [Act.put, n1, n2, n3, n4, n5, n6]
      refine tk 13 (v := ?_) ?_
      try simp only [Act.put, n1, n2, n3, n4, n5, n6]
      refine wpAnyH_done (by kernel_rfl) ?_ _
      have hz4 := size4
      have HWd := Lib.hid HW.out.drew
      have Xd := Lib.hid (hbc.out.below (step_drew wr))
      generalize wr.drew = wd at HWd Xd ⊢
      rcases hh with ⟨rfl, h0, rfl⟩ | ⟨g, off, rfl, hc1, hc2⟩
      · obtain rfl : s = [] := List.length_eq_zero_iff.1 h0
        obtain rfl : k = 0 := by simpa using hk
        have hb5 := step_alloc wd (.cells #[] 48)
        have hwd1 := Xd.out.lt
        have O0 : Hid ((wd.alloc (.cells #[] 48)).ownsRow (w.heap.size + 1) 48 4 (.slice (some ⟨wd.heap.size, 0, none⟩) 0 0) ([] : List Sib).length (flatE 4 senc [])) := Lib.hid (World.ownsRow_made wd _ 0 hwd1 (by unfold maxLen; omega) rfl)
        replace Xd := Lib.hid (Xd.out.below hb5)
        replace HWd := Lib.hid (HWd.out.trans (hb5.mono HWd.out.size))
        have hzd : w.heap.size + 1 ≤ (wd.alloc (.cells #[] 48)).heap.size := Xd.out.lt
        clear hb5
        obtain ⟨e0, e1, e2, e3, _⟩ := Xd.out.c4
        have tok1 : True := trivial
        go_wp2_with (at_builtin; have _t := tok1; refine wpList_append_sib _ rfl _ _ rfl (w.heap.size + 1) _ [] ((tn, tm), tg, td) (by rfl) (wd.heap.size + 1) (by simp) (by rfl) O0.out (by simp) hzd ?_; intro v2 w5 ho5 hb5; clear tok1; obtain ⟨g5, c5, rfl, h5c⟩ := own_cap ho5; have O2 := Lib.hid ho5; have HW5 := Lib.hid (HWd.out.trans (hb5.mono (Nat.le_succ _))); clear ho5 hb5)
        go_ret
        obtain ⟨qa, qc, he, hh2, ho2⟩ := own_head (l := [((tn, tm), tg, td)]) O2.out
        have ei : ins [] ((tn, tm), tg, td) = [((tn, tm), tg, td)] := rfl
        rw [ei]
        exact ⟨qa, qc, by rw [← he]; rfl, hh2, ho2.wide (Nat.le_succ _) (Nat.le_refl _), by rw [← he]; exact O2.out, HW5.out⟩
      · have hc1 := hc1
        unfold maxLen at hc2
        have hb5 := step_alloc wd (.cells #[] 48)
        have hwd1 := Xd.out.lt
        have O0 : Hid ((wd.alloc (.cells #[] 48)).ownsRow (w.heap.size + 1) 48 4 (.slice (some ⟨wd.heap.size, 0, none⟩) 0 0) ([] : List Sib).length (flatE 4 senc [])) := Lib.hid (World.ownsRow_made wd _ 0 hwd1 (by unfold maxLen; omega) rfl)
        replace Xd := Lib.hid (Xd.out.below hb5)
        replace HWd := Lib.hid (HWd.out.trans (hb5.mono HWd.out.size))
        have hzd : w.heap.size + 1 ≤ (wd.alloc (.cells #[] 48)).heap.size := Xd.out.lt
        clear hb5
        obtain rfl : k = s.length := by omega
        have hkl : (s.take s.length).length = s.length := by rw [List.length_take]; omega
        have hkc : (s.length : Int) ≤ (cap : Int) := by omega
        have hdl : (s.drop s.length).length = 0 := by simp
        by_cases hck : cap = s.length
        · subst hck
          have hnil : s.drop s.length = [] := List.drop_eq_nil_of_le (by omega)
          have tok1 : True := trivial
          have tok2 : True := trivial
          have tok3 : True := trivial
          go_wp2_with (first | (at_builtin; have _t := tok1; refine wpList_append_sibs _ rfl _ _ rfl (w.heap.size + 1) _ [] (s.take s.length) (by rfl) g off s.length s.length hkl (by rfl) O0.out (sibs_take s.length (SibsAt.mono H'.out HWd.out)) (by simp; omega) hzd ?_; intro v1 w4 ho4 hb4; clear tok1; rw [List.nil_append] at ho4; have O1 := Lib.hid ho4; have HW4 := Lib.hid (HWd.out.trans (hb4.mono (Nat.le_succ _))); have X4 := Lib.hid (Xd.out.same (hb4.block _ (Nat.lt_succ_self _)) hb4.size); have hz4b := X4.out.lt; clear ho4 hb4 O0; obtain ⟨e0, e1, e2, e3, _⟩ := X4.out.c4) | (at_builtin; have _t := tok2; refine wpList_append_sib _ rfl _ _ rfl (w.heap.size + 1) _ (s.take s.length) ((tn, tm), tg, td) (by rfl) w4.heap.size (by rfl) (by rfl) O1.out (by rw [hkl]; omega) hz4b ?_; intro v2 w5 ho5 hb5; clear tok2; have O2 := Lib.hid ho5; have HW5 := Lib.hid (HW4.out.trans (hb5.mono (Nat.le_succ _))); have hz5 : w.heap.size + 1 ≤ w5.heap.size := Nat.le_trans hz4b hb5.size; clear ho5 hb5) | (at_builtin; have _t := tok3; refine wpList_append_sibs _ rfl _ _ rfl (w.heap.size + 1) _ (s.take s.length ++ [((tn, tm), tg, td)]) (s.drop s.length) (by rfl) g off 0 _ hdl (by rfl) O2.out (.inl hnil) (by simp; omega) hz5 ?_; intro v3 w6 ho6 hb6; clear tok3; have O3 := Lib.hid ho6; have HW6 := Lib.hid (HW5.out.trans (hb6.mono (Nat.le_succ _))); clear ho6 hb6))
          go_ret
          have ho := O3.out
          have e9 : s.take s.length ++ [((tn, tm), tg, td)] ++ s.drop s.length = ins s ((tn, tm), tg, td) := by unfold ins; rw [HP.out]; simp
          rw [e9] at ho
          obtain ⟨qa, qc, rfl, hh2, ho2⟩ := own_head ho
          exact ⟨qa, qc, rfl, hh2, ho2.wide (Nat.le_succ _) (Nat.le_refl _), ho, HW6.out⟩
        · have hck2 := hck
          have tok1 : True := trivial
          have tok2 : True := trivial
          have tok3 : True := trivial
          go_wp2_with (first | (at_builtin; have _t := tok1; refine wpList_append_sibs _ rfl _ _ rfl (w.heap.size + 1) _ [] (s.take s.length) (by rfl) g off s.length cap hkl (by rfl) O0.out (sibs_take s.length (SibsAt.mono H'.out HWd.out)) (by simp; omega) hzd ?_; intro v1 w4 ho4 hb4; clear tok1; rw [List.nil_append] at ho4; have O1 := Lib.hid ho4; have HW4 := Lib.hid (HWd.out.trans (hb4.mono (Nat.le_succ _))); have X4 := Lib.hid (Xd.out.same (hb4.block _ (Nat.lt_succ_self _)) hb4.size); have hz4b := X4.out.lt; clear ho4 hb4 O0; obtain ⟨e0, e1, e2, e3, _⟩ := X4.out.c4) | (at_builtin; have _t := tok2; refine wpList_append_sib _ rfl _ _ rfl (w.heap.size + 1) _ (s.take s.length) ((tn, tm), tg, td) (by rfl) w4.heap.size (by rfl) (by rfl) O1.out (by rw [hkl]; omega) hz4b ?_; intro v2 w5 ho5 hb5; clear tok2; have O2 := Lib.hid ho5; have HW5 := Lib.hid (HW4.out.trans (hb5.mono (Nat.le_succ _))); have hz5 : w.heap.size + 1 ≤ w5.heap.size := Nat.le_trans hz4b hb5.size; clear ho5 hb5) | (at_builtin; have _t := tok3; refine wpList_append_sibs _ rfl _ _ rfl (w.heap.size + 1) _ (s.take s.length ++ [((tn, tm), tg, td)]) (s.drop s.length) (by rfl) g (off + s.length * 4) 0 (cap - s.length) hdl (by rfl) O2.out (sibs_drop s.length (SibsAt.mono H'.out HW5.out)) (by simp; omega) hz5 ?_; intro v3 w6 ho6 hb6; clear tok3; have O3 := Lib.hid ho6; have HW6 := Lib.hid (HW5.out.trans (hb6.mono (Nat.le_succ _))); clear ho6 hb6))
          go_ret
          have ho := O3.out
          have e9 : s.take s.length ++ [((tn, tm), tg, td)] ++ s.drop s.length = ins s ((tn, tm), tg, td) := by unfold ins; rw [HP.out]; simp
          rw [e9] at ho
          obtain ⟨qa, qc, rfl, hh2, ho2⟩ := own_head ho
          exact ⟨qa, qc, rfl, hh2, ho2.wide (Nat.le_succ _) (Nat.le_refl _), ho, HW6.out⟩
    obtain ⟨g, off, rfl, hg, c0, c1, c2, c3⟩ := (H'.out.mono HW.out).cells hlt
    obtain ⟨y, hy⟩ : ∃ y, s[k] = y := ⟨_, rfl⟩
    rw [hy] at c0 c1 c2 c3
    have HE := Lib.hid hy
    clear hy
    obtain ⟨⟨n, m⟩, gn, d⟩ := y
    dsimp only at c0 c1 c2 c3
    have i0 : (0 : Int) ≤ (k : Int) := by omega
    have i1 : (k : Int) < (s.length : Int) := by omega
    cases hless : lessB (n, m) (tn, tm)
    · have HP := Lib.hid (pos_unique s (tn, tm) k hk HLO.out (fun _ => by rw [getD_eq s k hlt, HE.out]; exact hless))
      go_wp2_with fail
      refine wp_region_held_drew (S := fun w' => w'.cell? ⟨g, off + k * 4, none⟩ = some (.int .i64 n) ∧ w'.cell? ⟨g, off + k * 4 + 1, none⟩ = some (.int .i64 m) ∧ w'.cell? ⟨w.heap.size, 0, none⟩ = some (.int .i64 tn) ∧ w'.cell? ⟨w.heap.size, 1, none⟩ = some (.int .i64 tm)) (by kernel_rfl) (by first | exact ⟨c0, c1, b0, b1⟩ | assumption | (go_split_ands; refine ⟨?_, ?_, ?_, ?_⟩ <;> (rw [hb.cell (by first | exact hwz | exact hg)]; assumption))) (fun hHeld => ?_)
      refine tk 0 (v := ?_) ?_
      try simp only [Act.put, n1, n2, n3, n4, n5, n6]
      refine tk 1 (v := ?_) ?_
      try simp only [Act.put, n1, n2, n3, n4, n5, n6]
      refine tk 2 (v := ?_) ?_
      try simp only [Act.put, n1, n2, n3, n4, n5, n6]
      refine tk 3 (v := ?_) ?_
      try simp only [Act.put, n1, n2, n3, n4, n5, n6]
      refine tk 4 (v := ?_) ?_
      try simp only [Act.put, n1, n2, n3, n4, n5, n6]
      refine tk 5 (v := ?_) ?_
      try simp only [Act.put, n1, n2, n3, n4, n5, n6]
      refine tk 6 (v := ?_) ?_
      try simp only [Act.put, n1, n2, n3, n4, n5, n6]
      refine tk 7 (v := ?_) ?_
      try simp only [Act.put, n1, n2, n3, n4, n5, n6]
      refine tk 8 (v := ?_) ?_
      try simp only [Act.put, n1, n2, n3, n4, n5, n6]
      refine tk 9 (v := ?_) ?_
      try simp only [Act.put, n1, n2, n3, n4, n5, n6]
      refine tk 10 (v := ?_) ?_
      try simp only [Act.put, n1, n2, n3, n4, n5, n6]
      refine tk 11 (v := ?_) ?_
      try simp only [Act.put, n1, n2, n3, n4, n5, n6]
      refine wpAnyH_ready (rs := [12]) (by kernel_rfl) (by simp) ?_
      refine AllReadyH.cons rfl (fun K hK => ?_) AllReadyH.nil
      go_simp
      go_at_call 68; refine (spec_less (n, m) (tn, tm) _).mono ?_; rintro e w1 ⟨rfl, hb⟩; rw [hless]; have HQ := Lib.hid (HB.out.drew.trans (hb.mono hwz)); have HV := Lib.hid (HW.out.drew.trans (hb.mono HW.out.size))
      go_wp2_with fail
      refine hK.out _ _ (by first | exact ⟨c0, c1, b0, b1⟩ | assumption | (go_split_ands; refine ⟨?_, ?_, ?_, ?_⟩ <;> (rw [hb.cell (by first | exact hwz | exact hg)]; assumption))) (fun hHeld => ?_)
      clear hK K
      try simp only [Act.put, n1, n2, n3, n4, n5, n6]
      refine tk 13 (v := ?_) ?_
      try simp only [Act.put, n1, n2, n3, n4, n5, n6]
      refine wpAnyH_done (by kernel_rfl) ?_ _
      have hz4 := size4
      have HWd := Lib.hid HV.out
      have Xd := Lib.hid ((hbc.out.below (step_drew wr)).below hb)
      clear hb
      generalize w1 = wd at HWd Xd ⊢
      rcases hh with ⟨h9, _, _⟩ | ⟨g', off', h9, hc1, hc2⟩
      · cases h9
      · clear h9
        unfold maxLen at hc2
        have hb5 := step_alloc wd (.cells #[] 48)
        have hwd1 := Xd.out.lt
        have O0 : Hid ((wd.alloc (.cells #[] 48)).ownsRow (w.heap.size + 1) 48 4 (.slice (some ⟨wd.heap.size, 0, none⟩) 0 0) ([] : List Sib).length (flatE 4 senc [])) := Lib.hid (World.ownsRow_made wd _ 0 hwd1 (by unfold maxLen; omega) rfl)
        replace Xd := Lib.hid (Xd.out.below hb5)
        replace HWd := Lib.hid (HWd.out.trans (hb5.mono HWd.out.size))
        have hzd : w.heap.size + 1 ≤ (wd.alloc (.cells #[] 48)).heap.size := Xd.out.lt
        clear hb5
        have hkl : (s.take k).length = k := by rw [List.length_take]; omega
        have hkc : (k : Int) ≤ (cap : Int) := by omega
        have hdl : (s.drop k).length = s.length - k := List.length_drop
        have hck : ¬ cap = k := by omega
        have tok1 : True := trivial
        have tok2 : True := trivial
        have tok3 : True := trivial
        go_wp2_with (first | (at_builtin; have _t := tok1; refine wpList_append_sibs _ rfl _ _ rfl (w.heap.size + 1) _ [] (s.take k) (by rfl) g off k cap hkl (by rfl) O0.out (sibs_take k (SibsAt.mono H'.out HWd.out)) (by simp; omega) hzd ?_; intro v1 w4 ho4 hb4; clear tok1; rw [List.nil_append] at ho4; have O1 := Lib.hid ho4; have HW4 := Lib.hid (HWd.out.trans (hb4.mono (Nat.le_succ _))); have X4 := Lib.hid (Xd.out.same (hb4.block _ (Nat.lt_succ_self _)) hb4.size); have hz4b := X4.out.lt; clear ho4 hb4 O0; obtain ⟨e0, e1, e2, e3, _⟩ := X4.out.c4) | (at_builtin; have _t := tok2; refine wpList_append_sib _ rfl _ _ rfl (w.heap.size + 1) _ (s.take k) ((tn, tm), tg, td) (by rfl) w4.heap.size (by rfl) (by rfl) O1.out (by rw [hkl]; omega) hz4b ?_; intro v2 w5 ho5 hb5; clear tok2; have O2 := Lib.hid ho5; have HW5 := Lib.hid (HW4.out.trans (hb5.mono (Nat.le_succ _))); have hz5 : w.heap.size + 1 ≤ w5.heap.size := Nat.le_trans hz4b hb5.size; clear ho5 hb5) | (at_builtin; have _t := tok3; refine wpList_append_sibs _ rfl _ _ rfl (w.heap.size + 1) _ (s.take k ++ [((tn, tm), tg, td)]) (s.drop k) (by rfl) g (off + k * 4) (s.length - k) (cap - k) hdl (by rfl) O2.out (sibs_drop k (SibsAt.mono H'.out HW5.out)) (by simp; omega) hz5 ?_; intro v3 w6 ho6 hb6; clear tok3; have O3 := Lib.hid ho6; have HW6 := Lib.hid (HW5.out.trans (hb6.mono (Nat.le_succ _))); clear ho6 hb6))
        go_ret
        have ho := O3.out
        have e9 : s.take k ++ [((tn, tm), tg, td)] ++ s.drop k = ins s ((tn, tm), tg, td) := by unfold ins; rw [HP.out]; simp
        rw [e9] at ho
        obtain ⟨qa, qc, rfl, hh2, ho2⟩ := own_head ho
        exact ⟨qa, qc, rfl, hh2, ho2.wide (Nat.le_succ _) (Nat.le_refl _), ho, HW6.out⟩
    · have HR := Lib.hid (show ∀ r, r < k + 1 → lessB (s.getD r z0).1 (tn, tm) = true from fun r h1 => by
        by_cases e : r = k
        · subst e; rw [getD_eq s r hlt, HE.out]; exact hless
        · exact HLO.out r (by omega))
      go_wp2_with fail
      refine wp_region_held_drew (S := fun w' => w'.cell? ⟨g, off + k * 4, none⟩ = some (.int .i64 n) ∧ w'.cell? ⟨g, off + k * 4 + 1, none⟩ = some (.int .i64 m) ∧ w'.cell? ⟨w.heap.size, 0, none⟩ = some (.int .i64 tn) ∧ w'.cell? ⟨w.heap.size, 1, none⟩ = some (.int .i64 tm)) (by kernel_rfl) (by first | exact ⟨c0, c1, b0, b1⟩ | assumption | (go_split_ands; refine ⟨?_, ?_, ?_, ?_⟩ <;> (rw [hb.cell (by first | exact hwz | exact hg)]; assumption))) (fun hHeld => ?_)
      refine tk 0 (v := ?_) ?_
      try simp only [Act.put, n1, n2, n3, n4, n5, n6]
      refine tk 1 (v := ?_) ?_
      try simp only [Act.put, n1, n2, n3, n4, n5, n6]
      refine tk 2 (v := ?_) ?_
      try simp only [Act.put, n1, n2, n3, n4, n5, n6]
      refine tk 3 (v := ?_) ?_
      try simp only [Act.put, n1, n2, n3, n4, n5, n6]
      refine tk 4 (v := ?_) ?_
      try simp only [Act.put, n1, n2, n3, n4, n5, n6]
      refine tk 5 (v := ?_) ?_
      try simp only [Act.put, n1, n2, n3, n4, n5, n6]
      refine tk 6 (v := ?_) ?_
      try simp only [Act.put, n1, n2, n3, n4, n5, n6]
      refine tk 7 (v := ?_) ?_
      try simp only [Act.put, n1, n2, n3, n4, n5, n6]
      refine tk 8 (v := ?_) ?_
      try simp only [Act.put, n1, n2, n3, n4, n5, n6]
      refine tk 9 (v := ?_) ?_
      try simp only [Act.put, n1, n2, n3, n4, n5, n6]
      refine tk 10 (v := ?_) ?_
      try simp only [Act.put, n1, n2, n3, n4, n5, n6]
      refine tk 11 (v := ?_) ?_
      try simp only [Act.put, n1, n2, n3, n4, n5, n6]
      refine wpAnyH_ready (rs := [12]) (by kernel_rfl) (by simp) ?_
      refine AllReadyH.cons rfl (fun K hK => ?_) AllReadyH.nil
      go_simp
      go_at_call 68; refine (spec_less (n, m) (tn, tm) _).mono ?_; rintro e w1 ⟨rfl, hb⟩; rw [hless]; have HQ := Lib.hid (HB.out.drew.trans (hb.mono hwz)); have HV := Lib.hid (HW.out.drew.trans (hb.mono HW.out.size))
      go_wp2_with fail
      refine hK.out _ _ (by first | exact ⟨c0, c1, b0, b1⟩ | assumption | (go_split_ands; refine ⟨?_, ?_, ?_, ?_⟩ <;> (rw [hb.cell (by first | exact hwz | exact hg)]; assumption))) (fun hHeld => ?_)
      clear hK K
      try simp only [Act.put, n1, n2, n3, n4, n5, n6]
      refine tk 13 (v := ?_) ?_
      try simp only [Act.put, n1, n2, n3, n4, n5, n6]
      refine wpAnyH_done (by kernel_rfl) ?_ _
      go_wp2
      go_roundw
      case rel => exact ⟨k + 1, by omega, by go_num, HR.out, HQ.out⟩
      case measure => go_light; simp [intOf]; omega
theorem spec_in (a : Option Addr) (cap : Nat) (s : List Sib) (x : Sib) (w : World) (hs : s.length ≤ 1000) (hh : Head a s.length cap) (h' : SibsAt w a s) :
    Calls Try.prog 58 #[.slice a s.length cap, sv x] w (SGivesH w (ins s x)) :=
  (spec_in_row a cap s x w hs hh h').mono fun e w' ⟨a, cap, h1, h2, h3, _, h5⟩ => ⟨a, cap, h1, h2, h3, h5⟩
end Go.Proofs.Ytiphlffcgjdoaaa.Sb

namespace Go.Proofs.Ytiphlffcgjdoaaa.Sb
open Go.RowKit Go.Proofs.Ytiphlffcgjdoaaa.Mk Go.Proofs.Ytiphlffcgjdoaaa.Rw

def MarkedSet2 (w : World) (lo hi lo1 hi1 lo2 hi2 : Nat) (a b : Option Addr) (k n m : Nat) (e : Ending) (w' : World) : Prop :=
  e = .returned (.int .i64 ((k + 2 * n + 4 * m : Nat) : Int)) ∧ OwnIn w' lo1 hi1 a (markL (k : Int) n) ∧ SOwnIn w' lo2 hi2 b (sibL (k + 2 * n) m) ∧ Within lo hi w w'
/-- what a call that makes a SetOut leaves: the two rows lie apart -/
def GivesSO (w : World) (l : List (Int × Int)) (s : List Sib) (x y c : Int) (e : Ending) (w' : World) : Prop :=
  ∃ a cap b cap' lo1 hi1 lo2 hi2, e = .returned (.agg #[.slice a l.length cap, .slice b s.length cap', .int .i64 x, .int .i64 y, .int .i64 c]) ∧ OwnIn w' lo1 hi1 a l ∧ SOwnIn w' lo2 hi2 b s ∧ w.heap.size ≤ lo1 ∧ w.heap.size ≤ lo2 ∧ hi1 ≤ w'.heap.size ∧ hi2 ≤ w'.heap.size ∧ (hi1 ≤ lo2 ∨ hi2 ≤ lo1) ∧ Head b s.length cap' ∧ Below w.heap.size w w'
theorem givesSO_no {w w' : World} (c : Int) (hb : Below w.heap.size w w') : GivesSO w [] [] 0 0 c (.returned (.agg #[.slice none 0 0, .slice none 0 0, .int .i64 0, .int .i64 0, .int .i64 c])) w' :=
  ⟨none, 0, none, 0, w.heap.size, w.heap.size, w.heap.size, w.heap.size, rfl, .inl rfl, .inl rfl, Nat.le_refl _, Nat.le_refl _, hb.size, hb.size, .inl (Nat.le_refl _), .inl ⟨rfl, rfl, rfl⟩, hb⟩
end Go.Proofs.Ytiphlffcgjdoaaa.Sb

namespace Go.Proofs.Ytiphlffcgjdoaaa.Sb
open Go.RowKit Go.Proofs.Ytiphlffcgjdoaaa.Mk Go.Proofs.Ytiphlffcgjdoaaa.Rw

/-- GivesSO, and the row of Sibs with its room -/
def GivesSR (w : World) (l : List (Int × Int)) (s : List Sib) (x y c : Int) (e : Ending) (w' : World) : Prop :=
  ∃ a cap b cap' lo1 hi1 lo2 hi2, e = .returned (.agg #[.slice a l.length cap, .slice b s.length cap', .int .i64 x, .int .i64 y, .int .i64 c]) ∧ OwnIn w' lo1 hi1 a l ∧ SOwnIn w' lo2 hi2 b s ∧ w.heap.size ≤ lo1 ∧ w.heap.size ≤ lo2 ∧ hi1 ≤ w'.heap.size ∧ hi2 ≤ w'.heap.size ∧ (hi1 ≤ lo2 ∨ hi2 ≤ lo1) ∧ Head b s.length cap' ∧ Below w.heap.size w w' ∧
    w'.ownsRow w.heap.size 48 4 (.slice b s.length cap') s.length (flatE 4 senc s) ∧ (s = [] → b = none)
theorem GivesSR.so {w : World} {l : List (Int × Int)} {s : List Sib} {x y c : Int} {e : Ending} {w' : World} (h : GivesSR w l s x y c e w') : GivesSO w l s x y c e w' := by
  obtain ⟨a, cap, b, cap', lo1, hi1, lo2, hi2, h1, h2, h3, h4, h5, h6, h7, h8, h9, h10, _⟩ := h
  exact ⟨a, cap, b, cap', lo1, hi1, lo2, hi2, h1, h2, h3, h4, h5, h6, h7, h8, h9, h10⟩
theorem givesSR_no {w w' : World} (c : Int) (hb : Below w.heap.size w w') : GivesSR w [] [] 0 0 c (.returned (.agg #[.slice none 0 0, .slice none 0 0, .int .i64 0, .int .i64 0, .int .i64 c])) w' :=
  ⟨none, 0, none, 0, w.heap.size, w.heap.size, w.heap.size, w.heap.size, rfl, .inl rfl, .inl rfl, Nat.le_refl _, Nat.le_refl _, hb.size, hb.size, .inl (Nat.le_refl _), .inl ⟨rfl, rfl, rfl⟩, hb, World.ownsRow_nil _ _ _ _, fun _ => rfl⟩
theorem row_le {w : World} {B B' n : Nat} {v : Value} {xs : List Value} (h : w.ownsRow B 48 4 v n xs) (hB : B' ≤ B) : w.ownsRow B' 48 4 v n xs := by
  obtain ⟨h1, h2⟩ := h
  refine ⟨h1, ?_⟩
  rcases h2 with h2 | ⟨g, cap, cur, hv, hg, r⟩
  · exact .inl h2
  · exact .inr ⟨g, cap, cur, hv, Nat.le_trans hB hg, r⟩
end Go.Proofs.Ytiphlffcgjdoaaa.Sb

namespace Go.Proofs.Ytiphlffcgjdoaaa.Sb
open Go.Proofs.Ytiphlffcgjdoaaa.Mk

def Less (x y : Sib) : Prop := lessB x.1 y.1 = true
theorem inc_pairwise {s : List Sib} : Inc s ↔ s.Pairwise Less := by
  rw [List.pairwise_iff_getElem]
  constructor
  · intro h i j hi hj hij
    have := h.lt' hij hj
    rwa [getD_eq s i hi, getD_eq s j hj] at this
  · intro h k hk
    have := h k (k + 1) (by omega) hk (by omega)
    rw [getD_eq s k (by omega), getD_eq s (k + 1) hk]
    exact this
theorem Inc.filter {s : List Sib} (h : Inc s) (p : Sib → Bool) : Inc (s.filter p) := inc_pairwise.2 ((inc_pairwise.1 h).filter p)
theorem Inc.nil : Inc [] := fun k hk => by simp at hk
theorem Inc.tail {x : Sib} {s : List Sib} (h : Inc (x :: s)) : Inc s := inc_pairwise.2 (inc_pairwise.1 h).of_cons
/-- a Sib behind all others -/
theorem pos_last {s : List Sib} {d : Int × Int} (h : ∀ y ∈ s, lessB y.1 d = true) : pos s d = s.length :=
  pos_unique s d s.length (Nat.le_refl _) (fun q hq => by rw [getD_eq s q hq]; exact h _ (List.getElem_mem hq)) (fun h => absurd h (Nat.lt_irrefl _))
theorem ins_last {s : List Sib} {x : Sib} (h : ∀ y ∈ s, Less y x) : ins s x = s ++ [x] := by
  unfold ins; rw [pos_last h]; simp
def collect (xs : List Sib) : List Sib := xs.foldl ins []
theorem collect_from : ∀ (xs pre : List Sib), Inc (pre ++ xs) → xs.foldl ins pre = pre ++ xs
  | [], pre, _ => by simp
  | x :: xs, pre, h => by
    have hp := inc_pairwise.1 h
    have hl : ∀ y ∈ pre, Less y x := fun y hy => (List.pairwise_append.1 hp).2.2 y hy x (by simp)
    rw [List.foldl_cons, ins_last hl, collect_from xs (pre ++ [x]) (by simpa using h)]
    simp
theorem collect_inc {xs : List Sib} (h : Inc xs) : collect xs = xs := by
  have := collect_from xs [] (by simpa using h)
  simpa [collect] using this
theorem ins_length (s : List Sib) (x : Sib) : (ins s x).length = s.length + 1 := by
  have := pos_le s x.1
  unfold ins
  rw [List.length_append, List.length_take, List.length_cons, List.length_drop]; omega
theorem ins_mem {s : List Sib} {x y : Sib} : y ∈ ins s x ↔ y = x ∨ y ∈ s := by
  unfold ins
  rw [List.mem_append, List.mem_cons]
  constructor
  · rintro (h | h | h)
    · exact .inr (List.mem_of_mem_take h)
    · exact .inl h
    · exact .inr (List.mem_of_mem_drop h)
  · rintro (h | h)
    · exact .inr (.inl h)
    · rw [← List.take_append_drop (pos s x.1) s] at h
      rcases List.mem_append.1 h with h | h
      · exact .inl h
      · exact .inr (.inr h)
/-- put in its place, a Sib with a new dot leaves the list increasing -/
theorem Inc.ins {s : List Sib} {x : Sib} (h : Inc s) (hn : ∀ y ∈ s, y.1 ≠ x.1) : Inc (ins s x) := by
  rw [inc_pairwise] at h ⊢
  have hp := inc_pairwise.2 h
  have hle := pos_le s x.1
  unfold Sb.ins
  rw [List.pairwise_append, List.pairwise_cons]
  refine ⟨h.sublist (List.take_sublist _ _), ⟨fun y hy => ?_, h.sublist (List.drop_sublist _ _)⟩, fun y hy z hz => ?_⟩
  · obtain ⟨i, hi, rfl⟩ := List.getElem_of_mem hy
    have hi' : pos s x.1 + i < s.length := by rw [List.length_drop] at hi; omega
    have hlt : pos s x.1 < s.length := by omega
    have := hp.up (pos_not s x.1 hlt) (Nat.le_add_right _ i) hi'
    rw [getD_eq s _ hi'] at this
    rw [List.getElem_drop]
    show lessB x.1 _ = true
    cases e : lessB x.1 (s[pos s x.1 + i]'hi').1
    · exact absurd (less_total this e) (hn _ (List.getElem_mem hi'))
    · rfl
  · obtain ⟨i, hi, rfl⟩ := List.getElem_of_mem hy
    have hi' : i < pos s x.1 := by rw [List.length_take] at hi; omega
    have h1 := pos_less s x.1 i hi'
    rw [getD_eq s i (by omega)] at h1
    rw [List.getElem_take]
    rcases List.mem_cons.1 hz with rfl | hz
    · exact h1
    · obtain ⟨j, hj, rfl⟩ := List.getElem_of_mem hz
      have hj' : pos s x.1 + j < s.length := by rw [List.length_drop] at hj; omega
      rw [List.getElem_drop]
      have := (List.pairwise_iff_getElem.1 h) i (pos s x.1 + j) (by omega) hj' (by omega)
      exact this
theorem mono_pairwise {s : List Sib} : Mono s ↔ s.Pairwise fun x y => lessB y.1 x.1 = false := by
  rw [List.pairwise_iff_getElem]
  constructor
  · intro h i j hi hj hij
    have := h.le' (Nat.le_of_lt hij) hj
    rwa [getD_eq s i hi, getD_eq s j hj] at this
  · intro h k hk
    have := h k (k + 1) (by omega) hk (by omega)
    rw [getD_eq s k (by omega), getD_eq s (k + 1) hk]
    exact this
/-- put in its place, any Sib leaves the list one that does not decrease -/
theorem Mono.ins {s : List Sib} (x : Sib) (h : Mono s) : Mono (Sb.ins s x) := by
  have hp := h
  rw [mono_pairwise] at h ⊢
  have hle := pos_le s x.1
  unfold Sb.ins
  rw [List.pairwise_append, List.pairwise_cons]
  refine ⟨h.sublist (List.take_sublist _ _), ⟨fun y hy => ?_, h.sublist (List.drop_sublist _ _)⟩, fun y hy z hz => ?_⟩
  · obtain ⟨i, hi, rfl⟩ := List.getElem_of_mem hy
    have hi' : pos s x.1 + i < s.length := by rw [List.length_drop] at hi; omega
    have := hp.up (pos_not s x.1 (by omega)) (Nat.le_add_right _ i) hi'
    rw [getD_eq s _ hi'] at this
    rw [List.getElem_drop]
    exact this
  · obtain ⟨i, hi, rfl⟩ := List.getElem_of_mem hy
    have hi' : i < pos s x.1 := by rw [List.length_take] at hi; omega
    have h1 := pos_less s x.1 i hi'
    rw [getD_eq s i (by omega)] at h1
    rw [List.getElem_take]
    rcases List.mem_cons.1 hz with rfl | hz
    · exact less_asymm h1
    · obtain ⟨j, hj, rfl⟩ := List.getElem_of_mem hz
      have hj' : pos s x.1 + j < s.length := by rw [List.length_drop] at hj; omega
      rw [List.getElem_drop]
      exact (List.pairwise_iff_getElem.1 h) i (pos s x.1 + j) (by omega) hj' (by omega)
theorem collect_snoc (xs : List Sib) (x : Sib) : collect (xs ++ [x]) = Sb.ins (collect xs) x := by unfold collect; rw [List.foldl_append]; rfl
theorem collect_mono : ∀ (xs : List Sib) (pre : List Sib), Mono pre → Mono (xs.foldl Sb.ins pre)
  | [], _, h => h
  | x :: xs, pre, h => collect_mono xs _ (h.ins x)
theorem collect_length (xs : List Sib) : (collect xs).length = xs.length := by
  have : ∀ (xs pre : List Sib), (xs.foldl Sb.ins pre).length = pre.length + xs.length := by
    intro xs
    induction xs with
    | nil => intro pre; simp
    | cons x xs ih => intro pre; rw [List.foldl_cons, ih, ins_length, List.length_cons]; omega
  simpa [collect] using this xs []
end Go.Proofs.Ytiphlffcgjdoaaa.Sb

namespace Go.Proofs.Ytiphlffcgjdoaaa.Sb
open Go.RowKit Go.Proofs.Ytiphlffcgjdoaaa.Mk Go.Proofs.Ytiphlffcgjdoaaa.Rw

def cmpI (x y : Int) : Int := if x < y then -1 else if y < x then 1 else 0
set_option maxRecDepth 100000 in
theorem compare (x y : Int) (w : World) : Calls Try.prog 102 #[.int .i64 x, .int .i64 y] w fun e w' => e = .returned (.int .i64 (cmpI x y)) ∧ w = w' := by
  unfold cmpI
  rcases Int.lt_trichotomy x y with h | h | h
  · rw [if_pos h]
    go_enter Try.func102, Try.ntmps102
    go_wp2
    all_goals go_ret
    all_goals exact ⟨rfl, rfl⟩
  · subst h
    rw [if_neg (by omega), if_neg (by omega)]
    go_enter Try.func102, Try.ntmps102
    go_wp2
    all_goals go_ret
    all_goals exact ⟨rfl, rfl⟩
  · have h1 : ¬ x < y := by omega
    rw [if_neg h1, if_pos h]
    go_enter Try.func102, Try.ntmps102
    go_wp2
    all_goals go_ret
    all_goals exact ⟨rfl, rfl⟩

/-- the first that is not zero -/
def orI (u v : Int) : Int := if u = 0 then v else u
set_option maxRecDepth 100000 in
theorem or2 (g : Nat) (u v : Int) (w : World) (h0 : w.cell? ⟨g, 0, none⟩ = some (.int .i64 u)) (h1 : w.cell? ⟨g, 1, none⟩ = some (.int .i64 v)) :
    Calls Try.prog 101 #[.slice (some ⟨g, 0, none⟩) 2 2] w fun e w' => e = .returned (.int .i64 (orI u v)) ∧ w = w' := by
  go_enter Try.func101, Try.ntmps101
  go_wp2
  go_loop [5, 8] (fun _ i => (i = .int .i64 0) ∨ (i = .int .i64 1 ∧ u = 0) ∨ (i = .int .i64 2 ∧ u = 0 ∧ v = 0)) (fun _ i => 2 - (intOf i).toNat)
  case atStart => exact .inl rfl
  case round =>
    rcases hrel with rfl | ⟨rfl, rfl⟩ | ⟨rfl, rfl, rfl⟩
    · by_cases h : u = 0
      · subst h
        go_wp2
        go_round
        case rel => exact .inr (.inl ⟨rfl, trivial⟩)
        case measure => simp [intOf]
      · have hu : (u == 0) = false := by simpa using h
        go_wp2
        go_ret
        exact ⟨ret_i64 (by unfold orI; rw [if_neg h]), rfl⟩
    · by_cases h : v = 0
      · subst h
        go_wp2
        go_round
        case rel => exact .inr (.inr ⟨rfl, trivial, trivial⟩)
        case measure => simp [intOf]
      · have hu : (v == 0) = false := by simpa using h
        go_wp2
        go_ret
        exact ⟨ret_i64 (by unfold orI; simp), rfl⟩
    · go_wp2
      go_ret
      exact ⟨ret_i64 (by unfold orI; simp), rfl⟩
end Go.Proofs.Ytiphlffcgjdoaaa.Sb

namespace Go.Proofs.Ytiphlffcgjdoaaa.Mk
open Go.RowKit Go.Maps

def mdat (m : Int × Int) : DataW Unit := .agg [.lit (.int .i64 m.1), .lit (.int .i64 m.2)]
def markElem : Value → Option (DataW Unit × List MemPlace)
  | .agg cs => match cs.toList with
    | [.int .i64 a, .int .i64 b] => some (mdat (a, b), [])
    | _ => none
  | _ => none
theorem markElem_mk (m : Int × Int) : markElem (mv m) = some (mdat m, []) := rfl
theorem markElem_inv {v : Value} {z : DataW Unit × List MemPlace} (h : markElem v = some z) : ∃ m, v = mv m ∧ z = (mdat m, []) := by
  unfold markElem at h
  split at h
  · rename_i cs
    split at h
    · rename_i a b e
      cases h
      refine ⟨(a, b), ?_, rfl⟩
      unfold mv
      congr 1
      apply Array.ext'
      simpa using e
    · cases h
  · cases h
theorem mdat_inj {m m' : Int × Int} (h : mdat m = mdat m') : m = m' := by
  unfold mdat at h
  simp at h
  exact Prod.ext h.1 h.2

theorem keyed : Keyed Try.prog 2 := int_keyed Try.underlying2
/-- block b of w is a map of at most n marks, f as a function -/
def MapOf (w : World) (b n : Nat) (f : Int → Option (Int × Int)) : Prop :=
  ∃ D : DataW Unit, w.ownsMap Try.prog 2 markElem b n D ∧ (∀ k, Maps.has D (.int .i64 k) = (f k).isSome) ∧ ∀ k, D.atKey (.int .i64 k) (mdat (0, 0)) = mdat (at_ f k)
theorem MapOf.lt {w : World} {b n : Nat} {f : Int → Option (Int × Int)} (h : MapOf w b n f) : b < w.heap.size := let ⟨_, h, _⟩ := h; h.lt
theorem MapOf.mono {w : World} {b n n' : Nat} {f : Int → Option (Int × Int)} (h : MapOf w b n f) (hn : n ≤ n') : MapOf w b n' f := let ⟨D, h, r⟩ := h; ⟨D, h.mono hn, r⟩
theorem MapOf.same {w w' : World} {b n : Nat} {f : Int → Option (Int × Int)} (h : MapOf w b n f) (hs : w'.heap[b]? = w.heap[b]?) : MapOf w' b n f := by
  obtain ⟨D, ⟨es, clock, hb, F, hn, hD⟩, r⟩ := h
  exact ⟨D, ⟨es, clock, hs.trans hb, F, hn, hD⟩, r⟩
theorem MapOf.alloc {w : World} {b n : Nat} {f : Int → Option (Int × Int)} (h : MapOf w b n f) (o : Obj) : MapOf (w.alloc o) b n f := h.same (Below.heap_alloc w o b h.lt)
theorem MapOf.setCell {w : World} {b n : Nat} {f : Int → Option (Int × Int)} (h : MapOf w b n f) (p : Addr) (hp : b ≠ p.block) (u : Value) : MapOf (w.setCell p u) b n f := h.same (Below.heap_setCell w p u b hp)
theorem MapOf.below {w w' : World} {b n : Nat} {f : Int → Option (Int × Int)} (h : MapOf w b n f) (hb : Below w.heap.size w w') : MapOf w' b n f := h.same (hb.block b h.lt)
theorem mapOf_made (w : World) : MapOf (w.alloc (.map #[] 0)) w.heap.size 0 nil :=
  ⟨.map [], World.ownsMap_made w _ _ _, fun _ => rfl, fun _ => rfl⟩
theorem zeroM (w : World) : (zeroValue 30).run Try.prog w = .ok (mv (0, 0)) w := by kernel_rfl
theorem MapOf.look {w : World} {b n : Nat} {f : Int → Option (Int × Int)} (h : MapOf w b n f) {k : Int} (hk : (Lit.int .i64 k).wf = true) :
    (Instr.lookup 107 (.map (some b)) (.int .i64 k) false).run Try.prog w = .ok (mv (at_ f k)) w := by
  obtain ⟨D, ho, _, hat⟩ := h
  obtain ⟨v, ps, hrun, hv⟩ := ho.lookup keyed Try.underlying107 (zeroM w) (markElem_mk (0, 0)) (keyOf_int_mk Try.underlying2 hk)
  obtain ⟨m, rfl, hz⟩ := markElem_inv hv
  rw [hat] at hz
  have : at_ f k = m := mdat_inj (congrArg Prod.fst hz)
  rw [this]; exact hrun
theorem MapOf.look_ok {w : World} {b n : Nat} {f : Int → Option (Int × Int)} (h : MapOf w b n f) {k : Int} (hk : (Lit.int .i64 k).wf = true) :
    (Instr.lookup 107 (.map (some b)) (.int .i64 k) true).run Try.prog w = .ok (.tuple #[mv (at_ f k), .bool (f k).isSome]) w := by
  obtain ⟨D, ho, hh, hat⟩ := h
  obtain ⟨v, ps, hrun, hv⟩ := ho.look_ok keyed Try.underlying107 (zeroM w) (markElem_mk (0, 0)) (keyOf_int_mk Try.underlying2 hk)
  obtain ⟨m, rfl, hz⟩ := markElem_inv hv
  rw [hat] at hz
  have : at_ f k = m := mdat_inj (congrArg Prod.fst hz)
  rw [this, ← hh]; exact hrun
theorem field1 (x y : Int) (w : World) : (Instr.field 30 (.agg #[.int .i64 x, .int .i64 y]) 1).run Try.prog w = .ok (.int .i64 y) w := by kernel_rfl
theorem field0 (x y : Int) (w : World) : (Instr.field 30 (.agg #[.int .i64 x, .int .i64 y]) 0).run Try.prog w = .ok (.int .i64 x) w := by kernel_rfl
theorem lit_ne {a b : Int} (h : a ≠ b) : (Lit.int .i64 a) ≠ .int .i64 b := fun e => h (by injection e)
theorem upd_at (f : Int → Option (Int × Int)) (m : Int × Int) (k : Int) : at_ (upd f m) k = if k = m.1 then m else at_ f k := by
  unfold at_ upd; split <;> rfl
theorem del_at (f : Int → Option (Int × Int)) (j k : Int) : at_ (del f j) k = if k = j then (0, 0) else at_ f k := by
  unfold at_ del; split <;> rfl
theorem turned_within {w w' : World} {b : Nat} (h : w.mapTurned w' b) : Within b (b + 1) w w' := by
  have g := h.grown
  exact ⟨g.os, g.tape, g.output, g.size, fun k hk ho => g.block k hk (fun e => by injection e; omega)⟩
theorem MapOf.store {w : World} {b n : Nat} {f : Int → Option (Int × Int)} (h : MapOf w b n f) (m : Int × Int) (hk : (Lit.int .i64 m.1).wf = true) (hn : n < maxLen) :
    ∃ w', (Instr.mapUpdate 107 (.map (some b)) (.int .i64 m.1) (mv m)).run Try.prog w = .ok () w' ∧ MapOf w' b (n + 1) (upd f m) ∧ Within b (b + 1) w w' := by
  obtain ⟨D, ho, hh, hat⟩ := h
  obtain ⟨w', hrun, ho', ht⟩ := ho.store keyed Try.underlying107 hn (keyOf_int_mk Try.underlying2 hk) (markElem_mk m)
  refine ⟨w', hrun, ⟨_, ho', fun k => ?_, fun k => ?_⟩, turned_within ht⟩
  · by_cases e : k = m.1
    · subst e; rw [has_put_same (k := .int .i64 m.1) ho.isMap trivial]; unfold upd; rw [if_pos rfl]; rfl
    · rw [has_put_other (lit_ne e), hh]; unfold upd; rw [if_neg e]
  · rw [upd_at]
    by_cases e : k = m.1
    · subst e; rw [atKey_put_same (k := .int .i64 m.1) ho.isMap trivial, if_pos rfl]
    · rw [atKey_put_other (lit_ne e), hat, if_neg e]
theorem MapOf.drop {w : World} {b n : Nat} {f : Int → Option (Int × Int)} (h : MapOf w b n f) (k0 : Int) (hk : (Lit.int .i64 k0).wf = true) (ty : TypeId) :
    ∃ w', (Builtin.delete_ #[107, 2] ty #[.map (some b), .int .i64 k0]).run Try.prog w = .ok (.tuple #[]) w' ∧ MapOf w' b n (del f k0) ∧ Within b (b + 1) w w' := by
  obtain ⟨D, ho, hh, hat⟩ := h
  obtain ⟨w', hrun, ho', ht⟩ := ho.drop keyed Try.underlying107 (keyOf_int_mk Try.underlying2 hk) ty
  refine ⟨w', hrun, ⟨_, ho', fun k => ?_, fun k => ?_⟩, turned_within ht⟩
  · by_cases e : k = k0
    · subst e; rw [has_del_same]; unfold del; rw [if_pos rfl]; rfl
    · rw [has_del_other (lit_ne e), hh]; unfold del; rw [if_neg e]
  · rw [del_at]
    by_cases e : k = k0
    · subst e; rw [atKey_del_same, if_pos rfl]
    · rw [atKey_del_other (lit_ne e), hat, if_neg e]
/-- how many -/
theorem MapOf.len {w : World} {b n : Nat} {f : Int → Option (Int × Int)} (h : MapOf w b n f) (ty : TypeId) :
    ∃ s : Nat, s ≤ n ∧ (Builtin.len_ #[107] ty #[.map (some b)]).run Try.prog w = .ok (.int .i64 (s : Int)) w ∧ (s = 0 ↔ ∀ k, f k = none) := by
  obtain ⟨D, ho, hh, hat⟩ := h
  refine ⟨Maps.size D, ho.size_le, ho.len Try.underlying107 ty, ?_⟩
  obtain ⟨es, clock, hb, F, hs, rfl⟩ := ho
  constructor
  · intro h0 k
    have h1 := hh k
    generalize (es.toList.map (WideElems.rg Try.prog 2 markElem)).foldr DataW.insert [] = L at h0 h1
    have : L = [] := List.length_eq_zero_iff.1 h0
    subst this
    cases hf : f k
    · rfl
    · rw [hf] at h1; cases h1
  · intro h0
    have hk := fit_keys F
    have e1 : Maps.size (DataW.map ((es.toList.map (WideElems.rg Try.prog 2 markElem)).foldr DataW.insert [])) = es.toList.length := by simp [Maps.size, length_sorted]
    rw [e1]
    cases hl : es.toList with
    | nil => rfl
    | cons x r =>
      exfalso
      obtain ⟨v, hv⟩ := hk (WideElems.rg Try.prog 2 markElem x) (List.mem_map.2 ⟨x, by rw [hl]; simp, rfl⟩)
      obtain ⟨k, _, hk1, _⟩ := Maps.keyOf_int_inv Try.underlying2 hv
      have h1 := hh k
      rw [h0 k, hl] at h1
      have h2 : Maps.has (DataW.map (((x :: r).map (WideElems.rg Try.prog 2 markElem)).foldr DataW.insert [])) (.int .i64 k) = true := by
        rw [Maps.has_eq, List.map_cons, List.foldr_cons, any_insert, hk1]
        simp [Lit.sameKey]
      rw [h2] at h1
      cases h1
end Go.Proofs.Ytiphlffcgjdoaaa.Mk

namespace Go.Proofs.Ytiphlffcgjdoaaa.Mk
open Go.RowKit

def nodeB (n : Int) : Bool := decide (1 ≤ n) && decide (n ≤ 5)
theorem nodeRight (n : Int) (w : World) : Calls Try.prog 38 #[.int .i64 n] w fun e w' => e = .returned (.bool (nodeB n)) ∧ w = w' := by
  go_enter Try.func38, Try.ntmps38
  go_wp2
  all_goals go_ret
  all_goals (refine ⟨ret_bool ?_, rfl⟩; unfold nodeB; simp; omega)
theorem dotRight (m : Int × Int) (w : World) : Calls Try.prog 70 #[mv m] w fun e w' => e = .returned (.bool (dotB m)) ∧ Below w.heap.size w w' := by
  obtain ⟨x, y⟩ := m
  unfold mv
  have e : dotB (x, y) = (nodeB x && decide (1 ≤ y) && decide (y ≤ 1000000)) := by unfold dotB nodeB; rfl
  rw [e]
  clear e
  cases hn : nodeB x
  · go_enter Try.func70, Try.ntmps70
    go_wp2_with (go_at_call 38; refine (nodeRight _ _).mono ?_; rintro e w' ⟨rfl, rfl⟩)
    go_ret
    exact ⟨rfl, (Below.refl _ _).alloc (Nat.le_refl _) _⟩
  · rcases (by omega : y < 1 ∨ (1 ≤ y ∧ y ≤ 1000000) ∨ (1 ≤ y ∧ 1000000 < y)) with h3 | ⟨h3, h4⟩ | ⟨h3, h4⟩
    all_goals
      go_enter Try.func70, Try.ntmps70
      go_wp2_with (go_at_call 38; refine (nodeRight _ _).mono ?_; rintro e w' ⟨rfl, rfl⟩)
      all_goals go_ret
      all_goals exact ⟨ret_bool (by simp; omega), (Below.refl _ _).alloc (Nat.le_refl _) _⟩

set_option maxRecDepth 100000 in
set_option maxHeartbeats 1000000 in
theorem seenRight (a : Option Addr) (cap : Nat) (l : List (Int × Int)) (w : World) (hl : l.length ≤ maxLen) (h : MarksAt w a l) :
    Calls Try.prog 37 #[.slice a l.length cap] w fun e w' => e = .returned (.bool (rightB l)) ∧ Below w.heap.size w w' := by
  have H := Lib.hid h
  clear h
  unfold maxLen at hl
  go_enter Try.func37, Try.ntmps37
  go_wp2
  go_loopw [3, 8] (fun z i wr => ∃ (k : Nat) (last : Int), k ≤ l.length ∧ i = .int .i64 k ∧ z = .int .i64 last ∧ rightB l = okFrom last (l.drop k) ∧ Below w.heap.size w wr) (fun _ i _ => l.length - (intOf i).toNat)
  case atStart => exact ⟨0, 0, Nat.zero_le _, rfl, rfl, by simp [rightB], Below.refl _ _⟩
  case round =>
    obtain ⟨k, last, hk, rfl, rfl, hr, hbel⟩ := hrel
    have HR := Lib.hid hr
    have HB := Lib.hid hbel
    clear hr hbel
    by_cases hlt : k < l.length
    · obtain ⟨g, off, rfl, hg, c0, c1⟩ := (H.out.mono HB.out).cells hlt
      have HS := Lib.hid (HR.out.trans (okFrom_step l k last hlt))
      generalize l[k] = m at c0 c1 HS
      obtain ⟨x, y⟩ := m
      have hb0 := Lib.hid (HB.out.alloc HB.out.size (.cells #[.int .i64 x, .int .i64 y] 30))
      cases hd : dotB (x, y)
      · go_wp2_with (go_at_call 70; refine (dotRight (x, y) _).mono ?_; rintro e w' ⟨rfl, hb⟩)
        go_ret
        exact ⟨ret_bool (by rw [HS.out, hd]; rfl), hb0.out.trans (hb.mono (by have := HB.out.size; simp; omega))⟩
      · by_cases hx : last < x
        · go_wp2_with (go_at_call 70; refine (dotRight (x, y) _).mono ?_; rintro e w' ⟨rfl, hb⟩; have hc := hb.cell (p := ⟨wr.heap.size, 0, none⟩) (by simp))
          go_roundw
          case rel => exact ⟨k + 1, x, by omega, by go_num, rfl, by rw [HS.out, hd]; simp [hx], hb0.out.trans (hb.mono (by have := HB.out.size; simp; omega))⟩
          case measure => go_light; simp [intOf]; omega
        · go_wp2_with (go_at_call 70; refine (dotRight (x, y) _).mono ?_; rintro e w' ⟨rfl, hb⟩; have hc := hb.cell (p := ⟨wr.heap.size, 0, none⟩) (by simp))
          go_ret
          exact ⟨ret_bool (by rw [HS.out, hd, decide_eq_false (by omega : ¬ last < x)]; rfl), hb0.out.trans (hb.mono (by have := HB.out.size; simp; omega))⟩
    · go_wp2
      go_ret
      exact ⟨ret_bool (by rw [HR.out, okFrom_end l k last (by omega)]), HB.out⟩
end Go.Proofs.Ytiphlffcgjdoaaa.Mk

namespace Go.Proofs.Ytiphlffcgjdoaaa.Mk
open Go.RowKit

theorem wf_small {n : Int} (h0 : -1000000000000 ≤ n) (h1 : n ≤ 1000000000000) : (Lit.int .i64 n).wf = true := by
  simp [Lit.wf, IntKind.min, IntKind.max, IntKind.bits, IntKind.signed]; omega
theorem right_get {l : List (Int × Int)} (h : rightB l = true) (k : Nat) (hk : k < l.length) : 1 ≤ l[k].1 ∧ l[k].1 ≤ 5 ∧ 1 ≤ l[k].2 ∧ l[k].2 ≤ 1000000 :=
  (dotB_iff _).1 (right_dot h _ (List.getElem_mem hk))
/-- what byNode leaves -/
def Mapped (w : World) (l : List (Int × Int)) (e : Ending) (w' : World) : Prop :=
  e = .returned (.map (some w.heap.size)) ∧ MapOf w' w.heap.size 5 (mapL l) ∧ Below w.heap.size w w'

set_option maxRecDepth 100000 in
set_option maxHeartbeats 1000000 in
theorem byNode (a : Option Addr) (cap : Nat) (l : List (Int × Int)) (w : World) (hr : rightB l = true) (h : MarksAt w a l) :
    Calls Try.prog 75 #[.slice a l.length cap] w (Mapped w l) := by
  have H := Lib.hid h
  have HR := Lib.hid hr
  have h5 := right_len hr
  clear h hr
  have hmm : ∀ w, (Instr.makeMap 107 (some (.int .i64 5))).run Try.prog w = .ok (.map (some w.heap.size)) (w.alloc (.map #[] 0)) := fun w => by simp [Instr.makeMap, asInt, asIntOf]
  go_enter Try.func75, Try.ntmps75
  go_wp2
  go_loopw [9] (fun i wr => ∃ (k : Nat), k ≤ l.length ∧ i = .int .i64 k ∧ MapOf wr w.heap.size k (mapL (l.take k)) ∧ Below w.heap.size w wr) (fun i _ => l.length - (intOf i).toNat)
  case atStart => exact ⟨0, Nat.zero_le _, rfl, mapOf_made w, (Below.refl _ _).alloc (Nat.le_refl _) _⟩
  case round =>
    obtain ⟨k, hk, rfl, hm, hbel⟩ := hrel
    have HM := Lib.hid hm
    have HB := Lib.hid hbel
    clear hm hbel
    by_cases hlt : k < l.length
    · obtain ⟨g, off, rfl, hg, c0, c1⟩ := (H.out.mono HB.out).cells hlt
      have hq := right_get HR.out k hlt
      have HS := Lib.hid (mapL_take l k hlt)
      generalize l[k] = m at c0 c1 HS hq
      obtain ⟨x, y⟩ := m
      simp only at c0 c1 hq
      obtain ⟨w2, hrun, hm2, hw2⟩ := (HM.out.alloc (.cells #[.int .i64 x, .int .i64 y] 30)).store (x, y) (wf_small (by simp only; omega) (by simp only; omega)) (by unfold maxLen; omega)
      have HM2 := Lib.hid hm2
      have HB2 := Lib.hid ((HB.out.alloc HB.out.size (.cells #[.int .i64 x, .int .i64 y] 30)).trans (hw2.below (Nat.le_refl _) (by have := HB.out.size; simp; omega)))
      clear hm2 hw2
      unfold mv at hrun
      simp only at hrun
      go_wp2
      go_roundw
      case rel => exact ⟨k + 1, by omega, by go_num, by rw [HS.out]; exact HM2.out, HB2.out⟩
      case measure => go_light; simp [intOf]; omega
    · have he : l.take k = l := List.take_of_length_le (by omega)
      rw [he] at HM
      clear he
      go_wp2
      go_ret
      exact ⟨rfl, HM.out.mono (by omega), HB.out⟩

theorem seenOf_right {l : List (Int × Int)} (h : rightB l = true) (n : Int) : seenOf l n = (at_ (mapL l) n).2 := by unfold seenOf; rw [if_pos h, mapL_at h]
set_option maxRecDepth 100000 in
theorem impl_seenOf (a : Option Addr) (cap : Nat) (l : List (Int × Int)) (n : Int) (w : World) (hl : l.length ≤ maxLen) (hn : (Lit.int .i64 n).wf = true) (h : MarksAt w a l) :
    Calls Try.prog 41 #[.slice a l.length cap, .int .i64 n] w fun e w' => e = .returned (.int .i64 (seenOf l n)) ∧ Below w.heap.size w w' := by
  have H := Lib.hid h
  have HN := Lib.hid hn
  clear h hn
  cases hr : rightB l
  · have hs : seenOf l n = 0 := by unfold seenOf; rw [hr]; rfl
    have HS := Lib.hid hs
    clear hs
    go_enter Try.func41, Try.ntmps41
    go_wp2_with (go_at_call 37; refine (seenRight _ _ l _ hl H.out).mono ?_; rintro e w' ⟨rfl, hb⟩)
    go_ret
    exact ⟨ret_i64 HS.out.symm, hb⟩
  · have HS := Lib.hid (seenOf_right hr n)
    have HR := Lib.hid hr
    go_enter Try.func41, Try.ntmps41
    go_wp2_with (go_at_call 37; refine (seenRight _ _ l _ hl H.out).mono ?_; rintro e w' ⟨rfl, hb⟩)
    refine (byNode a cap l _ HR.out (H.out.mono hb)).mono ?_
    rintro e w2 ⟨rfl, hm, hb2⟩
    have hlook := hm.look HN.out
    have HB := Lib.hid (hb.trans (hb2.mono hb.size))
    clear hm hb hb2
    generalize at_ (mapL l) n = m at hlook HS
    obtain ⟨x, y⟩ := m
    unfold mv at hlook
    simp only at hlook
    have hf := field1 x y
    go_wp2
    go_ret
    exact ⟨ret_i64 HS.out.symm, HB.out⟩
end Go.Proofs.Ytiphlffcgjdoaaa.Mk
