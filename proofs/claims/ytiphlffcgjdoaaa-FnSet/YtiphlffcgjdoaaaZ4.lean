/- Parts of a law: SeenHas, SetRightI, Bsearch. Conditions: on sizes, as each says. -/
import Derived.Test.YtiphlffcgjdoaaaZ1
import Derived.Deep.RegionHeld3
import Derived.Test.YtiphlffcgjdoaaaZ3
import Derived.Laws.EntriesVeiled
import Derived.Test.YtiphlffcgjdoaaaZ2
set_option linter.unusedSimpArgs false
set_option linter.unusedVariables false
namespace Go.Proofs.Ytiphlffcgjdoaaa.Mk
open Go.RowKit

theorem hasB_eq {l : List (Int × Int)} {m : Int × Int} (h : dotB m = true) : hasB l m = decide (m.2 ≤ seenOf l m.1) := by
  unfold hasB seenOf
  have := (dotB_iff m).1 h
  cases hr : rightB l
  · rw [if_neg (by simp)]; simp; omega
  · rw [if_pos rfl, h]; simp
theorem hasB_no {l : List (Int × Int)} {m : Int × Int} (h : dotB m = false) : hasB l m = false := by unfold hasB; rw [h]; simp

set_option maxRecDepth 100000 in
set_option maxHeartbeats 1000000 in
theorem impl_seenHas (a : Option Addr) (cap : Nat) (l : List (Int × Int)) (m : Int × Int) (w : World) (hl : l.length ≤ maxLen) (hw : (Lit.int .i64 m.1).wf = true) (h : MarksAt w a l) :
    Calls Try.prog 26 #[.slice a l.length cap, mv m] w fun e w' => e = .returned (.bool (hasB l m)) ∧ Below w.heap.size w w' := by
  have H := Lib.hid h
  have HW := Lib.hid hw
  clear h hw
  cases hd : dotB m
  · have HH := Lib.hid (hasB_no (l := l) hd)
    obtain ⟨x, y⟩ := m
    unfold mv
    simp only at HW
    go_enter Try.func26, Try.ntmps26
    go_wp2_with fail
    refine wp_region_held_drew (S := fun w' => w'.cell? ⟨w.heap.size, 0, none⟩ = some (.int .i64 x) ∧ w'.cell? ⟨w.heap.size, 1, none⟩ = some (.int .i64 y) ∧ w.heap.size < w'.heap.size) (by kernel_rfl) (by first | (simp [*]; done) | (go_split_ands; refine ⟨?_, ?_, ?_⟩; (rw [hb.cell (by first | (simp; done) | assumption)]; assumption); (rw [hb.cell (by first | (simp; done) | assumption)]; assumption); (have := hb.size; simp at this ⊢; omega))) (fun hHeld => ?_)
    refine tk 0 (v := ?_) ?_
    try simp only [Act.put, n1, n2, n3, n4, n5, n6]
    refine wpAnyH_ready (rs := [1]) (by kernel_rfl) (by simp) ?_
    refine AllReadyH.cons rfl (fun K hK => ?_) AllReadyH.nil
    go_simp
    go_at_call 70; refine (dotRight (x, y) _).mono ?_; rintro e w1 ⟨rfl, hb⟩; have HB1 := Lib.hid (((Below.refl _ w).alloc (Nat.le_refl _) _).drew.trans (hb.mono (by simp)))
    go_wp2_with fail
    refine hK.out _ _ (by first | (simp [*]; done) | (go_split_ands; refine ⟨?_, ?_, ?_⟩; (rw [hb.cell (by first | (simp; done) | assumption)]; assumption); (rw [hb.cell (by first | (simp; done) | assumption)]; assumption); (have := hb.size; simp at this ⊢; omega))) (fun hHeld => ?_)
    clear hK K
    try simp only [Act.put, n1, n2, n3, n4, n5, n6]
    refine tk 2 (v := ?_) ?_
    try simp only [Act.put, n1, n2, n3, n4, n5, n6]
    refine wpAnyH_take (i := 3) (v := undef) rfl (by kernel_rfl) (by kernel_rfl) (by kernel_rfl) (fun _ _ _ h => h) (Or.inr ⟨by rfl, rfl⟩) (by assumption) ?_
    try simp only [Act.put, n1, n2, n3, n4, n5, n6]
    refine wpAnyH_take (i := 4) (v := undef) rfl (by kernel_rfl) (by kernel_rfl) (by kernel_rfl) (fun _ _ _ h => h) (Or.inr ⟨by rfl, rfl⟩) (by assumption) ?_
    try simp only [Act.put, n1, n2, n3, n4, n5, n6]
    refine wpAnyH_take (i := 5) (v := undef) rfl (by kernel_rfl) (by kernel_rfl) (by kernel_rfl) (fun _ _ _ h => h) (Or.inr ⟨by rfl, rfl⟩) (by assumption) ?_
    try simp only [Act.put, n1, n2, n3, n4, n5, n6]
    refine wpAnyH_take (i := 6) (v := undef) rfl (by kernel_rfl) (by kernel_rfl) (by kernel_rfl) (fun _ _ _ h => h) (Or.inr ⟨by rfl, rfl⟩) (by assumption) ?_
    try simp only [Act.put, n1, n2, n3, n4, n5, n6]
    refine wpAnyH_take (i := 7) (v := undef) rfl (by kernel_rfl) (by kernel_rfl) (by kernel_rfl) (fun _ _ _ h => h) (Or.inr ⟨by rfl, rfl⟩) (by assumption) ?_
    try simp only [Act.put, n1, n2, n3, n4, n5, n6]
    refine wpAnyH_take (i := 8) (v := undef) rfl (by kernel_rfl) (by kernel_rfl) (by kernel_rfl) (fun _ _ _ h => h) (Or.inr ⟨by rfl, rfl⟩) (by assumption) ?_
    try simp only [Act.put, n1, n2, n3, n4, n5, n6]
    refine wpAnyH_take (i := 9) (v := undef) rfl (by kernel_rfl) (by kernel_rfl) (by kernel_rfl) (fun _ _ _ h => h) (Or.inr ⟨by rfl, rfl⟩) (by assumption) ?_
    try simp only [Act.put, n1, n2, n3, n4, n5, n6]
    refine tk 10 (v := ?_) ?_
    try simp only [Act.put, n1, n2, n3, n4, n5, n6]
    refine tk 11 (v := ?_) ?_
    try simp only [Act.put, n1, n2, n3, n4, n5, n6]
    refine wpAnyH_done (by kernel_rfl) ?_ _
    go_wp2
    go_ret
    exact ⟨ret_bool HH.out.symm, HB1.out⟩
  · have HH := Lib.hid (hasB_eq (l := l) hd)
    obtain ⟨x, y⟩ := m
    unfold mv
    simp only at HW HH
    go_enter Try.func26, Try.ntmps26
    go_wp2_with fail
    refine wp_region_held_drew (S := fun w' => w'.cell? ⟨w.heap.size, 0, none⟩ = some (.int .i64 x) ∧ w'.cell? ⟨w.heap.size, 1, none⟩ = some (.int .i64 y) ∧ w.heap.size < w'.heap.size) (by kernel_rfl) (by first | (simp [*]; done) | (go_split_ands; refine ⟨?_, ?_, ?_⟩; (rw [hb.cell (by first | (simp; done) | assumption)]; assumption); (rw [hb.cell (by first | (simp; done) | assumption)]; assumption); (have := hb.size; simp at this ⊢; omega))) (fun hHeld => ?_)
    refine tk 0 (v := ?_) ?_
    try simp only [Act.put, n1, n2, n3, n4, n5, n6]
    refine wpAnyH_ready (rs := [1]) (by kernel_rfl) (by simp) ?_
    refine AllReadyH.cons rfl (fun K hK => ?_) AllReadyH.nil
    go_simp
    go_at_call 70; refine (dotRight (x, y) _).mono ?_; rintro e w1 ⟨rfl, hb⟩; have HB1 := Lib.hid (((Below.refl _ w).alloc (Nat.le_refl _) _).drew.trans (hb.mono (by simp)))
    go_wp2_with fail
    refine hK.out _ _ (by first | (simp [*]; done) | (go_split_ands; refine ⟨?_, ?_, ?_⟩; (rw [hb.cell (by first | (simp; done) | assumption)]; assumption); (rw [hb.cell (by first | (simp; done) | assumption)]; assumption); (have := hb.size; simp at this ⊢; omega))) (fun hHeld => ?_)
    clear hK K
    try simp only [Act.put, n1, n2, n3, n4, n5, n6]
    refine tk 2 (v := ?_) ?_
    try simp only [Act.put, n1, n2, n3, n4, n5, n6]
    refine tk 3 (v := ?_) ?_
    try simp only [Act.put, n1, n2, n3, n4, n5, n6]
    refine tk 4 (v := ?_) ?_
    try simp only [Act.put, n1, n2, n3, n4, n5, n6]
    refine tk 5 (v := ?_) ?_
    try simp only [Act.put, n1, n2, n3, n4, n5, n6]
    refine tk 6 (v := ?_) ?_
    try simp only [Act.put, n1, n2, n3, n4, n5, n6]
    refine tk 7 (v := ?_) ?_
    try simp only [Act.put, n1, n2, n3, n4, n5, n6]
    refine wpAnyH_ready (rs := [8]) (by kernel_rfl) (by simp) ?_
    refine AllReadyH.cons rfl (fun K hK => ?_) AllReadyH.nil
    go_simp
    go_at_call 41; refine (impl_seenOf a cap l x _ hl HW.out (H.out.mono HB1.out)).mono ?_; rintro e w2 ⟨rfl, hb⟩; have HB2 := Lib.hid (HB1.out.trans (hb.mono HB1.out.size))
    go_wp2_with fail
    refine hK.out _ _ (by first | (simp [*]; done) | (go_split_ands; refine ⟨?_, ?_, ?_⟩; (rw [hb.cell (by first | (simp; done) | assumption)]; assumption); (rw [hb.cell (by first | (simp; done) | assumption)]; assumption); (have := hb.size; simp at this ⊢; omega))) (fun hHeld => ?_)
    clear hK K
    try simp only [Act.put, n1, n2, n3, n4, n5, n6]
    refine tk 9 (v := ?_) ?_
    try simp only [Act.put, n1, n2, n3, n4, n5, n6]
    refine tk 10 (v := ?_) ?_
    try simp only [Act.put, n1, n2, n3, n4, n5, n6]
    refine tk 11 (v := ?_) ?_
    try simp only [Act.put, n1, n2, n3, n4, n5, n6]
    refine wpAnyH_done (by kernel_rfl) ?_ _
    go_wp2
    go_ret
    exact ⟨ret_bool HH.out.symm, HB2.out⟩
end Go.Proofs.Ytiphlffcgjdoaaa.Mk

namespace Go.Proofs.Ytiphlffcgjdoaaa.Sb
open Go.RowKit Go.Proofs.Ytiphlffcgjdoaaa.Mk Go.Proofs.Ytiphlffcgjdoaaa.Rw

def ordI (a b : Int × Int) : Int := orI (cmpI a.1 b.1) (cmpI a.2 b.2)
theorem ordI_less (a b : Int × Int) : lessB a b = decide (ordI a b < 0) := by
  unfold lessB ordI orI cmpI
  rcases Int.lt_trichotomy a.1 b.1 with h | h | h
  · simp [h]
  · rw [h]
    rcases Int.lt_trichotomy a.2 b.2 with k | k | k <;> simp [k] <;> omega
  · have : ¬ a.1 < b.1 := by omega
    have h2 : ¬ a.1 = b.1 := by omega
    simp [h, this, h2]
theorem ordI_zero (a b : Int × Int) : ordI a b = 0 ↔ a = b := by
  unfold ordI orI cmpI
  obtain ⟨x, y⟩ := a
  obtain ⟨u, v⟩ := b
  simp only [Prod.mk.injEq]
  constructor
  · intro h
    rcases Int.lt_trichotomy x u with k | k | k
    · simp [k] at h
    · subst k
      rcases Int.lt_trichotomy y v with q | q | q
      · simp [q] at h
      · exact ⟨rfl, q⟩
      · have : ¬ y < v := by omega
        simp [q, this] at h
    · have : ¬ x < u := by omega
      simp [k, this] at h
  · rintro ⟨rfl, rfl⟩
    simp

set_option maxRecDepth 100000 in
set_option maxHeartbeats 1000000 in
theorem sibOrder (a b : Sib) (w : World) : Calls Try.prog 93 #[sv a, sv b] w fun e w' => e = .returned (.int .i64 (ordI a.1 b.1)) ∧ Below w.heap.size w w' := by
  obtain ⟨⟨n, m⟩, g, d⟩ := a
  obtain ⟨⟨n', m'⟩, g', d'⟩ := b
  have HV := Lib.hid (show ordI (n, m) (n', m') = orI (cmpI n n') (cmpI m m') from rfl)
  unfold sv
  dsimp only
  have HX := Lib.hid (((Below.refl w.heap.size w).alloc (Nat.le_refl _) (.cells #[.int .i64 n, .int .i64 m, .bool g, .string d] 48)).alloc (by simp) (.cells #[.int .i64 n', .int .i64 m', .bool g', .string d'] 48))
  have x0 : ((w.alloc (.cells #[.int .i64 n, .int .i64 m, .bool g, .string d] 48)).alloc (.cells #[.int .i64 n', .int .i64 m', .bool g', .string d'] 48)).cell? ⟨w.heap.size, 0, none⟩ = some (.int .i64 n) := by simp
  have x1 : ((w.alloc (.cells #[.int .i64 n, .int .i64 m, .bool g, .string d] 48)).alloc (.cells #[.int .i64 n', .int .i64 m', .bool g', .string d'] 48)).cell? ⟨w.heap.size, 1, none⟩ = some (.int .i64 m) := by simp
  have y0 : ((w.alloc (.cells #[.int .i64 n, .int .i64 m, .bool g, .string d] 48)).alloc (.cells #[.int .i64 n', .int .i64 m', .bool g', .string d'] 48)).cell? ⟨w.heap.size + 1, 0, none⟩ = some (.int .i64 n') := by simp
  have y1 : ((w.alloc (.cells #[.int .i64 n, .int .i64 m, .bool g, .string d] 48)).alloc (.cells #[.int .i64 n', .int .i64 m', .bool g', .string d'] 48)).cell? ⟨w.heap.size + 1, 1, none⟩ = some (.int .i64 m') := by simp
  have ya : w.heap.size < ((w.alloc (.cells #[.int .i64 n, .int .i64 m, .bool g, .string d] 48)).alloc (.cells #[.int .i64 n', .int .i64 m', .bool g', .string d'] 48)).heap.size := by simp; omega
  have yb : w.heap.size + 1 < ((w.alloc (.cells #[.int .i64 n, .int .i64 m, .bool g, .string d] 48)).alloc (.cells #[.int .i64 n', .int .i64 m', .bool g', .string d'] 48)).heap.size := by simp
  go_enter Try.func93, Try.ntmps93
  go_wp2_with fail
  generalize (w.alloc (.cells #[.int .i64 n, .int .i64 m, .bool g, .string d] 48)).alloc (.cells #[.int .i64 n', .int .i64 m', .bool g', .string d'] 48) = wa at x0 x1 y0 y1 ya yb HX ⊢
  refine wp_region_held_drew (S := fun w' => w'.cell? ⟨w.heap.size, 0, none⟩ = some (.int .i64 n) ∧ w'.cell? ⟨w.heap.size, 1, none⟩ = some (.int .i64 m) ∧ w'.cell? ⟨w.heap.size + 1, 0, none⟩ = some (.int .i64 n') ∧ w'.cell? ⟨w.heap.size + 1, 1, none⟩ = some (.int .i64 m')) (by kernel_rfl) (by first | exact ⟨x0, x1, y0, y1⟩ | assumption | (simp [*]; done) | exact ⟨z0, z1, z2, z3⟩) (fun hHeld => ?_)
  refine tk 0 (v := ?_) ?_
  try simp only [Act.put, n1, n2, n3, n4, n5, n6]
  refine tk 1 (v := ?_) ?_
  try simp only [Act.put, n1, n2, n3, n4, n5, n6]
  refine tk 2 (v := ?_) ?_
  try simp only [Act.put, n1, n2, n3, n4, n5, n6]
  refine tk 3 (v := ?_) ?_
  try simp only [Act.put, n1, n2, n3, n4, n5, n6]
  refine tk 4 (v := ?_) ?_
  try simp only [Act.put, n1, n2, n3, n4, n5, n6]
  refine tk 5 (v := ?_) ?_
  try simp only [Act.put, n1, n2, n3, n4, n5, n6]
  refine tk 7 (v := ?_) ?_
  try simp only [Act.put, n1, n2, n3, n4, n5, n6]
  refine tk 8 (v := ?_) ?_
  try simp only [Act.put, n1, n2, n3, n4, n5, n6]
  refine tk 9 (v := ?_) ?_
  try simp only [Act.put, n1, n2, n3, n4, n5, n6]
  refine tk 10 (v := ?_) ?_
  try simp only [Act.put, n1, n2, n3, n4, n5, n6]
  refine tk 11 (v := ?_) ?_
  try simp only [Act.put, n1, n2, n3, n4, n5, n6]
  refine tk 12 (v := ?_) ?_
  try simp only [Act.put, n1, n2, n3, n4, n5, n6]
  refine wpAnyH_ready (rs := [6]) (by kernel_rfl) (by simp) ?_
  refine AllReadyH.cons rfl (fun K hK => ?_) AllReadyH.nil
  go_simp
  go_at_call 102; refine (compare n n' _).mono ?_; rintro e w1 ⟨rfl, rfl⟩
  go_wp2_with fail
  refine hK.out _ _ (by first | exact ⟨x0, x1, y0, y1⟩ | assumption | (simp [*]; done) | exact ⟨z0, z1, z2, z3⟩) (fun hHeld => ?_)
  clear hK K
  try simp only [Act.put, n1, n2, n3, n4, n5, n6]
  refine wpAnyH_ready (rs := [13]) (by kernel_rfl) (by simp) ?_
  refine AllReadyH.cons rfl (fun K hK => ?_) AllReadyH.nil
  go_simp
  go_at_call 102; refine (compare m m' _).mono ?_; rintro e w1 ⟨rfl, rfl⟩
  go_wp2_with fail
  refine hK.out _ _ (by first | exact ⟨x0, x1, y0, y1⟩ | assumption | (simp [*]; done) | exact ⟨z0, z1, z2, z3⟩) (fun hHeld => ?_)
  clear hK K
  try simp only [Act.put, n1, n2, n3, n4, n5, n6]
  refine wpAnyH_ready (rs := [14]) (by kernel_rfl) (by simp) ?_
  refine AllReadyH.cons rfl (fun K hK => ?_) AllReadyH.nil
  go_simp
  have hsw := (step_alloc wa (.cells #[.int .i64 (cmpI n n'), .int .i64 (cmpI m m')] 3)).drew
  have z0 := (hsw.cell (p := ⟨w.heap.size, 0, none⟩) ya).trans x0; have z1 := (hsw.cell (p := ⟨w.heap.size, 1, none⟩) ya).trans x1; have z2 := (hsw.cell (p := ⟨w.heap.size + 1, 0, none⟩) yb).trans y0; have z3 := (hsw.cell (p := ⟨w.heap.size + 1, 1, none⟩) yb).trans y1
  go_wp2_with fail
  refine hK.out _ _ (by first | exact ⟨x0, x1, y0, y1⟩ | assumption | (simp [*]; done) | exact ⟨z0, z1, z2, z3⟩) (fun hHeld => ?_)
  clear hK K
  try simp only [Act.put, n1, n2, n3, n4, n5, n6]
  refine wpAnyH_ready (rs := [15]) (by kernel_rfl) (by simp) ?_
  refine AllReadyH.cons rfl (fun K hK => ?_) AllReadyH.nil
  go_simp
  go_at_call 101; refine (or2 wa.heap.size (cmpI n n') (cmpI m m') _ (by simp) (by simp)).mono ?_; rintro e w1 ⟨rfl, rfl⟩; have z0 := (hsw.cell (p := ⟨w.heap.size, 0, none⟩) ya).trans x0; have z1 := (hsw.cell (p := ⟨w.heap.size, 1, none⟩) ya).trans x1; have z2 := (hsw.cell (p := ⟨w.heap.size + 1, 0, none⟩) yb).trans y0; have z3 := (hsw.cell (p := ⟨w.heap.size + 1, 1, none⟩) yb).trans y1
  go_wp2_with fail
  refine hK.out _ _ (by first | exact ⟨x0, x1, y0, y1⟩ | assumption | (simp [*]; done) | exact ⟨z0, z1, z2, z3⟩) (fun hHeld => ?_)
  clear hK K
  try simp only [Act.put, n1, n2, n3, n4, n5, n6]
  refine tk 16 (v := ?_) ?_
  try simp only [Act.put, n1, n2, n3, n4, n5, n6]
  refine wpAnyH_done (by kernel_rfl) ?_ _
  go_wp2
  go_ret
  exact ⟨ret_i64 HV.out.symm, HX.out.trans (hsw.mono HX.out.size)⟩

def ordF : Value := .func (.func 93) #[] #[]
theorem sortedSibs (a : Option Addr) (n cap : Nat) (w : World) : Calls Try.prog 64 #[.slice a n cap] w fun e w' => e = .returned (.agg #[.slice a n cap, ordF]) ∧ Below w.heap.size w w' := by
  unfold ordF
  go_enter Try.func64, Try.ntmps64
  go_wp2
  refine bodyPost_ret (v := .agg #[.slice a n cap, .func (.func 93) #[] #[]]) (by simp [results, Try.results64, go_sem]) rfl ⟨rfl, ?_⟩
  repeat (first | refine Below.setCell ?_ (by simp) _ | refine Below.alloc ?_ (by simp) _)
  exact Below.refl _ _

theorem less_ord {a b : Int × Int} (h : lessB a b = false) : (0 : Int) ≤ ordI a b := by rw [ordI_less] at h; simpa using h
theorem less_ord' {a b : Int × Int} (h : lessB a b = true) : ¬ (0 : Int) ≤ ordI a b := by
  rw [ordI_less] at h
  have : ordI a b < 0 := by simpa using h
  omega
set_option maxRecDepth 100000 in
set_option maxHeartbeats 1000000 in
theorem right_ (a : Option Addr) (cap : Nat) (s : List Sib) (w : World) (hs : s.length ≤ maxLen) (h' : SibsAt w a s) :
    Calls Try.prog 67 #[.agg #[.slice a s.length cap, ordF]] w fun e w' => e = .returned (.bool (decide (Inc s))) ∧ Below w.heap.size w w' := by
  have H' := Lib.hid h'
  clear h'
  have hsm := hs
  unfold maxLen at hsm
  have hb0 := Lib.hid (step_alloc w (.cells #[.slice a s.length cap, .func (.func 93) #[] #[]] 69))
  unfold ordF
  go_enter Try.func67, Try.ntmps67
  go_wp2
  go_loopw [3] (fun i wr => ∃ (j : Nat), j ≤ s.length ∧ i = .int .i64 ((j : Int) + 1) ∧ (∀ q, q < j → q + 1 < s.length → lessB (s.getD q z0).1 (s.getD (q + 1) z0).1 = true) ∧ Below (w.heap.size + 1) (w.alloc (.cells #[.slice a s.length cap, .func (.func 93) #[] #[]] 69)) wr) (fun i _ => s.length + 1 - (intOf i).toNat)
  case atStart => exact ⟨0, by omega, rfl, fun q h => by omega, Below.refl _ _⟩
  case round =>
    obtain ⟨j, hj, rfl, hu, hbel⟩ := hrel
    have HU := Lib.hid hu
    have HB := Lib.hid hbel
    have HW := Lib.hid (hb0.out.trans (hbel.mono (by simp)))
    have hwz : w.heap.size < wr.heap.size := by have := hbel.size; simp at this; omega
    have b0 : wr.cell? ⟨w.heap.size, 0, none⟩ = some (.slice a s.length cap) := (hbel.cell (p := ⟨w.heap.size, 0, none⟩) (by simp)).trans (by rw [World.cell?_alloc_mark]; rfl)
    have b1 : wr.cell? ⟨w.heap.size, 1, none⟩ = some (.func (.func 93) #[] #[]) := (hbel.cell (p := ⟨w.heap.size, 1, none⟩) (by simp)).trans (by rw [World.cell?_alloc_mark]; rfl)
    clear hu hbel
    by_cases hlt : j + 1 < s.length
    rotate_left
    · have HR := Lib.hid (decide_eq_true (show Inc s from fun q hq => HU.out q (by omega) hq))
      have hge : ¬ (j : Int) + 1 < (s.length : Int) := by omega
      go_wp2
      go_ret
      exact ⟨ret_bool HR.out.symm, HW.out⟩
    obtain ⟨g, off, rfl, hg, c0, c1, c2, c3⟩ := (H'.out.mono HW.out).cells hlt
    obtain ⟨g2, off2, hgo, _, p0, p1, p2, p3⟩ := (H'.out.mono HW.out).cells (show j < s.length by omega)
    obtain ⟨rfl, rfl⟩ : g = g2 ∧ off = off2 := by simpa using hgo
    obtain ⟨x, hx⟩ : ∃ x, s[j + 1] = x := ⟨_, rfl⟩
    rw [hx] at c0 c1 c2 c3
    obtain ⟨y, hy⟩ : ∃ y, s[j]'(by omega) = y := ⟨_, rfl⟩
    rw [hy] at p0 p1 p2 p3
    have HE := Lib.hid hx
    have HP := Lib.hid hy
    clear hx hy hgo
    obtain ⟨⟨n, m⟩, gn, d⟩ := x
    obtain ⟨⟨pn, pm⟩, pg, pd⟩ := y
    dsimp only at c0 c1 c2 c3 p0 p1 p2 p3
    have hlt' : (j : Int) + 1 < (s.length : Int) := by omega
    have hwj : IntKind.i64.wrap (j : Int) = (j : Int) := by rw [IntKind.wrap_i64]; omega
    have i0 : (0 : Int) ≤ (j : Int) := by omega
    have i1 : (j : Int) < (s.length : Int) := by omega
    have i2 : (0 : Int) ≤ (j : Int) + 1 := by omega
    have hjn : ((j : Int) + 1).toNat = j + 1 := by omega
    cases hless : lessB (pn, pm) (n, m)
    · have HR := Lib.hid (decide_eq_false (show ¬ Inc s from fun q => by have := q j hlt; rw [getD_eq s j (by omega), getD_eq s (j + 1) hlt, HP.out, HE.out, hless] at this; cases this))
      have hge := less_ord hless
      go_wp2_with fail
      refine wp_region_held_drew (S := fun w' => w'.cell? ⟨w.heap.size, 0, none⟩ = some (.slice (some ⟨g, off, none⟩) s.length cap) ∧ w'.cell? ⟨w.heap.size, 1, none⟩ = some (.func (.func 93) #[] #[]) ∧ w'.cell? ⟨g, off + j * 4, none⟩ = some (.int .i64 pn) ∧ w'.cell? ⟨g, off + j * 4 + 1, none⟩ = some (.int .i64 pm) ∧ w'.cell? ⟨g, off + j * 4 + 2, none⟩ = some (.bool pg) ∧ w'.cell? ⟨g, off + j * 4 + 3, none⟩ = some (.string pd) ∧ w'.cell? ⟨g, off + (j + 1) * 4, none⟩ = some (.int .i64 n) ∧ w'.cell? ⟨g, off + (j + 1) * 4 + 1, none⟩ = some (.int .i64 m) ∧ w'.cell? ⟨g, off + (j + 1) * 4 + 2, none⟩ = some (.bool gn) ∧ w'.cell? ⟨g, off + (j + 1) * 4 + 3, none⟩ = some (.string d)) (by kernel_rfl) (by first | exact ⟨b0, b1, p0, p1, p2, p3, c0, c1, c2, c3⟩ | assumption | (go_split_ands; refine ⟨?_, ?_, ?_, ?_, ?_, ?_, ?_, ?_, ?_, ?_⟩ <;> (rw [hb.cell (by first | exact hwz | exact hg)]; assumption))) (fun hHeld => ?_)
      refine tk 0 (v := ?_) ?_
      try simp only [Act.put, n1, n2, n3, n4, n5, n6]
      refine tk 1 (v := ?_) ?_
      try simp only [Act.put, n1, n2, n3, n4, n5, n6]
      refine tk 2 (v := ?_) ?_
      try simp only [Act.put, n1, n2, n3, n4, n5, n6]
      refine tk 3 (v := ?_) ?_
      try simp only [Act.put, n1, n2, n3, n4, n5, n6]
      refine tk 4 (v := ?_) ?_
      try simp only [Act.put, n1, n2, n3, n4, n5, n6]
      refine tk 5 (v := ?_) ?_
      try simp only [Act.put, n1, n2, n3, n4, n5, n6]
      refine tk 6 (v := ?_) ?_
      try simp only [Act.put, n1, n2, n3, n4, n5, n6]
      refine tk 7 (v := ?_) ?_
      try simp only [Act.put, n1, n2, n3, n4, n5, n6]
      refine tk 8 (v := ?_) ?_
      try simp only [Act.put, n1, n2, n3, n4, n5, n6]
      refine tk 9 (v := ?_) ?_
      try simp only [Act.put, n1, n2, n3, n4, n5, n6]
      refine tk 10 (v := ?_) ?_
      try simp only [Act.put, n1, n2, n3, n4, n5, n6]
      refine tk 11 (v := ?_) ?_
      try simp only [Act.put, n1, n2, n3, n4, n5, n6]
      refine tk 12 (v := ?_) ?_
      try simp only [Act.put, n1, n2, n3, n4, n5, n6]
      refine wpAnyH_ready (rs := [13]) (by kernel_rfl) (by simp) ?_
      refine AllReadyH.cons rfl (fun K hK => ?_) AllReadyH.nil
      go_simp
      go_at_call 93; refine (sibOrder ((pn, pm), pg, pd) ((n, m), gn, d) _).mono ?_; rintro e w1 ⟨rfl, hb⟩; have HQ := Lib.hid (HB.out.drew.trans (hb.mono hwz)); have HV := Lib.hid (HW.out.drew.trans (hb.mono HW.out.size))
      go_wp2_with fail
      refine hK.out _ _ (by first | exact ⟨b0, b1, p0, p1, p2, p3, c0, c1, c2, c3⟩ | assumption | (go_split_ands; refine ⟨?_, ?_, ?_, ?_, ?_, ?_, ?_, ?_, ?_, ?_⟩ <;> (rw [hb.cell (by first | exact hwz | exact hg)]; assumption))) (fun hHeld => ?_)
      clear hK K
      try simp only [Act.put, n1, n2, n3, n4, n5, n6]
      refine tk 14 (v := ?_) ?_
      try simp only [Act.put, n1, n2, n3, n4, n5, n6]
      refine wpAnyH_done (by kernel_rfl) ?_ _
      go_wp2
      go_ret
      exact ⟨ret_bool HR.out.symm, HV.out⟩
    · have HR := Lib.hid (show ∀ q, q < j + 1 → q + 1 < s.length → lessB (s.getD q z0).1 (s.getD (q + 1) z0).1 = true from fun q h1 h2 => by
        by_cases e : q = j
        · subst e; rw [getD_eq s q (by omega), getD_eq s (q + 1) hlt, HP.out, HE.out]; exact hless
        · exact HU.out q (by omega) h2)
      have hge := less_ord' hless
      go_wp2_with fail
      refine wp_region_held_drew (S := fun w' => w'.cell? ⟨w.heap.size, 0, none⟩ = some (.slice (some ⟨g, off, none⟩) s.length cap) ∧ w'.cell? ⟨w.heap.size, 1, none⟩ = some (.func (.func 93) #[] #[]) ∧ w'.cell? ⟨g, off + j * 4, none⟩ = some (.int .i64 pn) ∧ w'.cell? ⟨g, off + j * 4 + 1, none⟩ = some (.int .i64 pm) ∧ w'.cell? ⟨g, off + j * 4 + 2, none⟩ = some (.bool pg) ∧ w'.cell? ⟨g, off + j * 4 + 3, none⟩ = some (.string pd) ∧ w'.cell? ⟨g, off + (j + 1) * 4, none⟩ = some (.int .i64 n) ∧ w'.cell? ⟨g, off + (j + 1) * 4 + 1, none⟩ = some (.int .i64 m) ∧ w'.cell? ⟨g, off + (j + 1) * 4 + 2, none⟩ = some (.bool gn) ∧ w'.cell? ⟨g, off + (j + 1) * 4 + 3, none⟩ = some (.string d)) (by kernel_rfl) (by first | exact ⟨b0, b1, p0, p1, p2, p3, c0, c1, c2, c3⟩ | assumption | (go_split_ands; refine ⟨?_, ?_, ?_, ?_, ?_, ?_, ?_, ?_, ?_, ?_⟩ <;> (rw [hb.cell (by first | exact hwz | exact hg)]; assumption))) (fun hHeld => ?_)
      refine tk 0 (v := ?_) ?_
      try simp only [Act.put, n1, n2, n3, n4, n5, n6]
      refine tk 1 (v := ?_) ?_
      try simp only [Act.put, n1, n2, n3, n4, n5, n6]
      refine tk 2 (v := ?_) ?_
      try simp only [Act.put, n1, n2, n3, n4, n5, n6]
      refine tk 3 (v := ?_) ?_
      try simp only [Act.put, n1, n2, n3, n4, n5, n6]
      refine tk 4 (v := ?_) ?_
      try simp only [Act.put, n1, n2, n3, n4, n5, n6]
      refine tk 5 (v := ?_) ?_
      try simp only [Act.put, n1, n2, n3, n4, n5, n6]
      refine tk 6 (v := ?_) ?_
      try simp only [Act.put, n1, n2, n3, n4, n5, n6]
      refine tk 7 (v := ?_) ?_
      try simp only [Act.put, n1, n2, n3, n4, n5, n6]
      refine tk 8 (v := ?_) ?_
      try simp only [Act.put, n1, n2, n3, n4, n5, n6]
      refine tk 9 (v := ?_) ?_
      try simp only [Act.put, n1, n2, n3, n4, n5, n6]
      refine tk 10 (v := ?_) ?_
      try simp only [Act.put, n1, n2, n3, n4, n5, n6]
      refine tk 11 (v := ?_) ?_
      try simp only [Act.put, n1, n2, n3, n4, n5, n6]
      refine tk 12 (v := ?_) ?_
      try simp only [Act.put, n1, n2, n3, n4, n5, n6]
      refine wpAnyH_ready (rs := [13]) (by kernel_rfl) (by simp) ?_
      refine AllReadyH.cons rfl (fun K hK => ?_) AllReadyH.nil
      go_simp
      go_at_call 93; refine (sibOrder ((pn, pm), pg, pd) ((n, m), gn, d) _).mono ?_; rintro e w1 ⟨rfl, hb⟩; have HQ := Lib.hid (HB.out.drew.trans (hb.mono hwz)); have HV := Lib.hid (HW.out.drew.trans (hb.mono HW.out.size))
      go_wp2_with fail
      refine hK.out _ _ (by first | exact ⟨b0, b1, p0, p1, p2, p3, c0, c1, c2, c3⟩ | assumption | (go_split_ands; refine ⟨?_, ?_, ?_, ?_, ?_, ?_, ?_, ?_, ?_, ?_⟩ <;> (rw [hb.cell (by first | exact hwz | exact hg)]; assumption))) (fun hHeld => ?_)
      clear hK K
      try simp only [Act.put, n1, n2, n3, n4, n5, n6]
      refine tk 14 (v := ?_) ?_
      try simp only [Act.put, n1, n2, n3, n4, n5, n6]
      refine wpAnyH_done (by kernel_rfl) ?_ _
      go_wp2
      go_roundw
      case rel => exact ⟨j + 1, by omega, by go_num, HR.out, HQ.out⟩
      case measure => go_light; simp [intOf]; omega

def WfDots (s : List Sib) : Prop := ∀ x ∈ s, (Lit.int .i64 x.1.1).wf = true
theorem all_step {l : List (Int × Int)} {s : List Sib} {k : Nat} (hk : k < s.length) (u : ∀ x ∈ s.take k, sibOk l x = true) (h : sibOk l s[k] = true) : ∀ x ∈ s.take (k + 1), sibOk l x = true := by
  intro x hx
  rw [List.take_succ_eq_append_getElem hk] at hx
  rcases List.mem_append.1 hx with hx | hx
  · exact u x hx
  · simp at hx; rw [hx]; exact h
theorem setB_inc {l : List (Int × Int)} {s : List Sib} (hr : rightB l = true) (h8 : s.length ≤ 8) (hu : ∀ x ∈ s, sibOk l x = true) : setB l s = decide (Inc s) := by
  unfold setB
  by_cases h : Inc s
  · rw [decide_eq_true h, decide_eq_true ⟨hr, h8, hu, h⟩]
  · rw [decide_eq_false h, decide_eq_false (fun q => h q.2.2.2)]
set_option maxRecDepth 100000 in
set_option maxHeartbeats 2000000 in
theorem impl_setRight (a b : Option Addr) (cap cap' : Nat) (l : List (Int × Int)) (s : List Sib) (w : World) (hl : l.length ≤ maxLen) (hs : s.length ≤ maxLen) (hd : SmallData s) (hwd : WfDots s) (h : MarksAt w a l) (h' : SibsAt w b s) :
    Calls Try.prog 22 #[.agg #[.slice a l.length cap, .slice b s.length cap']] w fun e w' => e = .returned (.bool (setB l s)) ∧ Below w.heap.size w w' := by
  have H := Lib.hid h
  have H' := Lib.hid h'
  have HD := Lib.hid hd
  have hsm := hs
  unfold maxLen at hsm
  have HF := Lib.hid hwd
  clear h h' hd hwd
  have hb0 := Lib.hid (step_alloc w (.cells #[.slice a l.length cap, .slice b s.length cap'] 26))
  cases hr : rightB l
  · have HR := Lib.hid (not_right (s := s) hr)
    go_enter Try.func22, Try.ntmps22
    go_wp2_with (go_at_call 37; refine (seenRight a cap l _ hl (H.out.mono hb0.out)).mono ?_; rintro e w1 ⟨rfl, hb⟩; rw [hr]; have HB1 := Lib.hid (hb0.out.trans (hb.mono (by simp))))
    go_ret
    exact ⟨ret_bool HR.out.symm, HB1.out⟩
  by_cases h8 : s.length ≤ 8
  rotate_left
  · have h8' : (8 : Int) < (s.length : Int) := by omega
    have HR := Lib.hid (not_short (l := l) h8)
    go_enter Try.func22, Try.ntmps22
    go_wp2_with (go_at_call 37; refine (seenRight a cap l _ hl (H.out.mono hb0.out)).mono ?_; rintro e w1 ⟨rfl, hb⟩; rw [hr]; have HB1 := Lib.hid (hb0.out.trans (hb.mono (by simp))); have hc := hb.cell (p := ⟨w.heap.size, 1, none⟩) (by simp))
    go_ret
    exact ⟨ret_bool HR.out.symm, HB1.out⟩
  have h8' : (s.length : Int) ≤ 8 := by omega
  go_enter Try.func22, Try.ntmps22
  go_wp2_with (go_at_call 37; refine (seenRight a cap l _ hl (H.out.mono hb0.out)).mono ?_; rintro e w1 ⟨rfl, hb⟩; rw [hr]; have HB1 := Lib.hid ((Below.refl _ (w.alloc (.cells #[.slice a l.length cap, .slice b s.length cap'] 26))).trans hb); have hc := hb.cell (p := ⟨w.heap.size, 1, none⟩) (by simp))
  clear hc hb
  go_loopw [18] (fun i wr => ∃ (k : Nat), k ≤ s.length ∧ i = .int .i64 k ∧ (∀ x ∈ s.take k, sibOk l x = true) ∧ Below (w.heap.size + 1) (w.alloc (.cells #[.slice a l.length cap, .slice b s.length cap'] 26)) wr) (fun i _ => s.length - (intOf i).toNat)
  case atStart => exact ⟨0, Nat.zero_le _, rfl, fun x hx => by simp at hx, by have := HB1.out; simpa using this⟩
  case round =>
    obtain ⟨k, hk, rfl, hu, hbel⟩ := hrel
    have HU := Lib.hid hu
    have HB := Lib.hid hbel
    have HW := Lib.hid (hb0.out.trans (hbel.mono (by simp)))
    have hwz : w.heap.size < wr.heap.size := by have := hbel.size; simp at this; omega
    have b0 : wr.cell? ⟨w.heap.size, 0, none⟩ = some (.slice a l.length cap) := (hbel.cell (p := ⟨w.heap.size, 0, none⟩) (by simp)).trans (by rw [World.cell?_alloc_mark]; rfl)
    have b1 : wr.cell? ⟨w.heap.size, 1, none⟩ = some (.slice b s.length cap') := (hbel.cell (p := ⟨w.heap.size, 1, none⟩) (by simp)).trans (by rw [World.cell?_alloc_mark]; rfl)
    clear hu hbel HB1
    by_cases hlt : k < s.length
    rotate_left
    · have HR := Lib.hid (setB_inc hr h8 (fun x hx => HU.out x (by rw [List.take_of_length_le (by omega)]; exact hx)))
      go_wp2_with fail
      refine (sortedSibs b s.length cap' _).mono ?_
      rintro e w1 ⟨rfl, hb1⟩
      have HV := Lib.hid (HW.out.trans (hb1.mono HW.out.size))
      clear hb1
      go_wp2_with fail
      refine (right_ b cap' s _ hs (H'.out.mono HV.out)).mono ?_
      rintro e w2 ⟨rfl, hb2⟩
      have HV2 := Lib.hid (HV.out.trans (hb2.mono HV.out.size))
      clear hb2
      go_wp2
      go_ret
      exact ⟨ret_bool HR.out.symm, HV2.out⟩
    obtain ⟨g, off, rfl, hg, c0, c1, c2, c3⟩ := (H'.out.mono HW.out).cells hlt
    have hsz := HD.out s[k] (List.getElem_mem hlt)
    have hwf := HF.out s[k] (List.getElem_mem hlt)
    obtain ⟨x, hx⟩ : ∃ x, s[k] = x := ⟨_, rfl⟩
    rw [hx] at c0 c1 c2 c3 hsz hwf
    have HE := Lib.hid hx
    clear hx
    obtain ⟨⟨n, m⟩, gn, d⟩ := x
    dsimp only at c0 c1 c2 c3 hsz hwf
    have HX := Lib.hid (HW.out.alloc HW.out.size (.cells #[.int .i64 n, .int .i64 m, .bool gn, .string d] 48))
    have HY := Lib.hid (HB.out.alloc (show w.heap.size + 1 ≤ wr.heap.size by omega) (.cells #[.int .i64 n, .int .i64 m, .bool gn, .string d] 48))
    cases hhas : hasB l (n, m)
    · have HR := Lib.hid (not_ok hlt (ok_has (l := l) (by rw [HE.out]; exact hhas)))
      go_wp2_with fail
      refine (impl_seenHas a cap l (n, m) _ hl hwf (H.out.mono HX.out)).mono ?_
      rintro e w1 ⟨rfl, hb⟩
      rw [hhas]
      have HV := Lib.hid (HX.out.trans (hb.mono HX.out.size))
      clear hb
      go_wp2
      go_ret
      exact ⟨ret_bool HR.out.symm, HV.out⟩
    cases hcont : contB d gn
    · have HR := Lib.hid (not_ok hlt (ok_cont (l := l) (by rw [HE.out]; exact hcont)))
      go_wp2_with fail
      refine (impl_seenHas a cap l (n, m) _ hl hwf (H.out.mono HX.out)).mono ?_
      rintro e w1 ⟨rfl, hb⟩
      rw [hhas]
      have HV := Lib.hid (HX.out.trans (hb.mono HX.out.size))
      obtain ⟨hc, _⟩ := bcell hb
      clear hb
      go_wp2_with (go_at_call 39; refine (contentRight d gn _ hsz).mono ?_; rintro e w2 ⟨rfl, rfl⟩; rw [hcont])
      go_ret
      exact ⟨ret_bool HR.out.symm, HV.out⟩
    · have HR := Lib.hid (all_step hlt HU.out (ok_yes (l := l) (by rw [HE.out]; exact hhas) (by rw [HE.out]; exact hcont)))
      go_wp2_with fail
      refine (impl_seenHas a cap l (n, m) _ hl hwf (H.out.mono HX.out)).mono ?_
      rintro e w1 ⟨rfl, hb⟩
      rw [hhas]
      have HV := Lib.hid (HY.out.trans (hb.mono (by simp; omega)))
      obtain ⟨hc, _⟩ := bcell hb
      clear hb
      go_wp2_with (go_at_call 39; refine (contentRight d gn _ hsz).mono ?_; rintro e w2 ⟨rfl, rfl⟩; rw [hcont])
      clear hc
      go_roundw
      case rel => exact ⟨k + 1, by omega, by go_num, HR.out, HV.out⟩
      case measure => go_light; simp [intOf]; omega
end Go.Proofs.Ytiphlffcgjdoaaa.Sb

namespace Go.Proofs.Ytiphlffcgjdoaaa.Sb
open Go.RowKit Go.Proofs.Ytiphlffcgjdoaaa.Mk Go.Proofs.Ytiphlffcgjdoaaa.Rw

theorem bool_eq {a b : Bool} (h : a = true ↔ b = true) : a = b := by cases a <;> cases b <;> simp_all
theorem ord_lt {a b : Int × Int} (h : lessB a b = true) : ordI a b < 0 := by rw [ordI_less] at h; simpa using h
theorem ord_ge {a b : Int × Int} (h : lessB a b = false) : ¬ ordI a b < 0 := by rw [ordI_less] at h; simpa using h
set_option maxRecDepth 100000 in
set_option maxHeartbeats 2000000 in
theorem bsearch (a : Option Addr) (cap : Nat) (s : List Sib) (x : Sib) (w : World) (hs : s.length ≤ 1000000) (hi : Mono s) (h' : SibsAt w a s) :
    Calls Try.prog 79 #[.slice a s.length cap, sv x, ordF] w fun e w' => e = .returned (.tuple #[.int .i64 (pos s x.1 : Nat), .bool (hasDot s x.1)]) ∧ Below w.heap.size w w' := by
  have H' := Lib.hid h'
  have HI := Lib.hid hi
  clear h' hi
  obtain ⟨⟨tn, tm⟩, tg, td⟩ := x
  unfold sv ordF
  dsimp only
  have hb0 := Lib.hid (step_alloc w (.cells #[.int .i64 tn, .int .i64 tm, .bool tg, .string td] 48))
  go_enter Try.func79, Try.ntmps79
  go_wp2
  go_loopw [9, 10] (fun p q wr => ∃ (i j : Nat), i ≤ j ∧ j ≤ s.length ∧ p = .int .i64 i ∧ q = .int .i64 j ∧ (∀ r, r < i → lessB (s.getD r z0).1 (tn, tm) = true) ∧ (∀ r, j ≤ r → r < s.length → lessB (s.getD r z0).1 (tn, tm) = false) ∧ Below (w.heap.size + 1) (w.alloc (.cells #[.int .i64 tn, .int .i64 tm, .bool tg, .string td] 48)) wr) (fun p q _ => (intOf q).toNat - (intOf p).toNat)
  case atStart => exact ⟨0, s.length, by omega, Nat.le_refl _, rfl, rfl, fun r h => by omega, fun r h1 h2 => by omega, Below.refl _ _⟩
  case round =>
    obtain ⟨i, j, hij, hj, rfl, rfl, hlo, hhi, hbel⟩ := hrel
    have HLO := Lib.hid hlo
    have HHI := Lib.hid hhi
    have HB := Lib.hid hbel
    have HW := Lib.hid (hb0.out.trans (hbel.mono (by simp)))
    have hwz : w.heap.size < wr.heap.size := by have := hbel.size; simp at this; omega
    obtain ⟨b0, b1, b2, b3, _⟩ := ((Cells.new w #[.int .i64 tn, .int .i64 tm, .bool tg, .string td] 48).below (hbel.mono (by simp))).c4
    clear hlo hhi hbel
    by_cases hlt : i < j
    rotate_left
    · obtain rfl : i = j := by omega
      have hpos : pos s (tn, tm) = i := pos_unique s _ i hj HLO.out (fun h => HHI.out i (Nat.le_refl _) h)
      have HP := Lib.hid hpos
      clear hpos
      by_cases hin : i < s.length
      · obtain ⟨g, off, rfl, hg, c0, c1, c2, c3⟩ := (H'.out.mono HW.out).cells hin
        obtain ⟨y, hy⟩ : ∃ y, s[i] = y := ⟨_, rfl⟩
        rw [hy] at c0 c1 c2 c3
        have HE := Lib.hid hy
        clear hy
        obtain ⟨⟨n, m⟩, gn, d⟩ := y
        dsimp only at c0 c1 c2 c3
        have hin' : (i : Int) < (s.length : Int) := by omega
        have i0 : (0 : Int) ≤ (i : Int) := by omega
        have HR := Lib.hid (show hasDot s (tn, tm) = (ordI (n, m) (tn, tm) == 0) from bool_eq (by rw [mono_has HI.out, HP.out, getD_eq s i hin, HE.out, beq_iff_eq, ordI_zero]; exact ⟨fun q => q.2, fun q => ⟨hin, q⟩⟩))
        go_wp2_with fail
        refine wp_region_held_drew (S := fun w' => w'.cell? ⟨g, off + i * 4, none⟩ = some (.int .i64 n) ∧ w'.cell? ⟨g, off + i * 4 + 1, none⟩ = some (.int .i64 m) ∧ w'.cell? ⟨g, off + i * 4 + 2, none⟩ = some (.bool gn) ∧ w'.cell? ⟨g, off + i * 4 + 3, none⟩ = some (.string d) ∧ w'.cell? ⟨w.heap.size, 0, none⟩ = some (.int .i64 tn) ∧ w'.cell? ⟨w.heap.size, 1, none⟩ = some (.int .i64 tm) ∧ w'.cell? ⟨w.heap.size, 2, none⟩ = some (.bool tg) ∧ w'.cell? ⟨w.heap.size, 3, none⟩ = some (.string td)) (by kernel_rfl) (by first | exact ⟨c0, c1, c2, c3, b0, b1, b2, b3⟩ | assumption | (go_split_ands; refine ⟨?_, ?_, ?_, ?_, ?_, ?_, ?_, ?_⟩ <;> (rw [hb.cell (by first | exact hwz | exact hg)]; assumption))) (fun hHeld => ?_)
        refine tk 0 (v := ?_) ?_
        try simp only [Act.put, n1, n2, n3, n4, n5, n6]
        refine tk 1 (v := ?_) ?_
        try simp only [Act.put, n1, n2, n3, n4, n5, n6]
        refine tk 2 (v := ?_) ?_
        try simp only [Act.put, n1, n2, n3, n4, n5, n6]
        refine tk 3 (v := ?_) ?_
        try simp only [Act.put, n1, n2, n3, n4, n5, n6]
        refine tk 4 (v := ?_) ?_
        try simp only [Act.put, n1, n2, n3, n4, n5, n6]
        refine tk 5 (v := ?_) ?_
        try simp only [Act.put, n1, n2, n3, n4, n5, n6]
        refine tk 6 (v := ?_) ?_
        try simp only [Act.put, n1, n2, n3, n4, n5, n6]
        refine tk 7 (v := ?_) ?_
        try simp only [Act.put, n1, n2, n3, n4, n5, n6]
        refine tk 8 (v := ?_) ?_
        try simp only [Act.put, n1, n2, n3, n4, n5, n6]
        refine tk 9 (v := ?_) ?_
        try simp only [Act.put, n1, n2, n3, n4, n5, n6]
        refine tk 10 (v := ?_) ?_
        try simp only [Act.put, n1, n2, n3, n4, n5, n6]
        refine wpAnyH_ready (rs := [11]) (by kernel_rfl) (by simp) ?_
        refine AllReadyH.cons rfl (fun K hK => ?_) AllReadyH.nil
        go_simp
        go_at_call 93; refine (sibOrder ((n, m), gn, d) ((tn, tm), tg, td) _).mono ?_; rintro e w1 ⟨rfl, hb⟩; have HQ := Lib.hid (HB.out.drew.trans (hb.mono hwz)); have HV := Lib.hid (HW.out.drew.trans (hb.mono HW.out.size))
        go_wp2_with fail
        refine hK.out _ _ (by first | exact ⟨c0, c1, c2, c3, b0, b1, b2, b3⟩ | assumption | (go_split_ands; refine ⟨?_, ?_, ?_, ?_, ?_, ?_, ?_, ?_⟩ <;> (rw [hb.cell (by first | exact hwz | exact hg)]; assumption))) (fun hHeld => ?_)
        clear hK K
        try simp only [Act.put, n1, n2, n3, n4, n5, n6]
        refine tk 12 (v := ?_) ?_
        try simp only [Act.put, n1, n2, n3, n4, n5, n6]
        refine tk 13 (v := ?_) ?_
        try simp only [Act.put, n1, n2, n3, n4, n5, n6]
        refine tk 14 (v := ?_) ?_
        try simp only [Act.put, n1, n2, n3, n4, n5, n6]
        refine tk 15 (v := ?_) ?_
        try simp only [Act.put, n1, n2, n3, n4, n5, n6]
        refine wpAnyH_done (by kernel_rfl) ?_ _
        go_wp2
        go_ret2
        exact ⟨by rw [HP.out, HR.out]; rfl, HV.out⟩
      · have hin' : ¬ (i : Int) < (s.length : Int) := by omega
        have HR := Lib.hid (show hasDot s (tn, tm) = false by
          cases e : hasDot s (tn, tm)
          · rfl
          · have := ((mono_has HI.out _).1 e).1
            rw [HP.out] at this; exact absurd this hin)
        go_wp2_with fail
        refine wp_region_held_drew (S := fun w' => True) (by kernel_rfl) (by trivial) (fun hHeld => ?_)
        refine tk 0 (v := ?_) ?_
        try simp only [Act.put, n1, n2, n3, n4, n5, n6]
        refine tk 1 (v := ?_) ?_
        try simp only [Act.put, n1, n2, n3, n4, n5, n6]
        refine tk 2 (v := ?_) ?_
        try simp only [Act.put, n1, n2, n3, n4, n5, n6]
        refine tk 3 (v := ?_) ?_
        try simp only [Act.put, n1, n2, n3, n4, n5, n6]
        refine tk 4 (v := ?_) ?_
        try simp only [Act.put, n1, n2, n3, n4, n5, n6]
        refine wpAnyH_take (i := 5) (v := undef) rfl (by kernel_rfl) (by kernel_rfl) (by kernel_rfl) (fun _ _ _ h => h) (Or.inr ⟨by rfl, rfl⟩) (by assumption) ?_
        try simp only [Act.put, n1, n2, n3, n4, n5, n6]
        refine wpAnyH_take (i := 6) (v := undef) rfl (by kernel_rfl) (by kernel_rfl) (by kernel_rfl) (fun _ _ _ h => h) (Or.inr ⟨by rfl, rfl⟩) (by assumption) ?_
        try simp only [Act.put, n1, n2, n3, n4, n5, n6]
        refine wpAnyH_take (i := 7) (v := undef) rfl (by kernel_rfl) (by kernel_rfl) (by kernel_rfl) (fun _ _ _ h => h) (Or.inr ⟨by rfl, rfl⟩) (by assumption) ?_
        try simp only [Act.put, n1, n2, n3, n4, n5, n6]
        refine wpAnyH_take (i := 8) (v := undef) rfl (by kernel_rfl) (by kernel_rfl) (by kernel_rfl) (fun _ _ _ h => h) (Or.inr ⟨by rfl, rfl⟩) (by assumption) ?_
        try simp only [Act.put, n1, n2, n3, n4, n5, n6]
        refine wpAnyH_take (i := 9) (v := undef) rfl (by kernel_rfl) (by kernel_rfl) (by kernel_rfl) (fun _ _ _ h => h) (Or.inr ⟨by rfl, rfl⟩) (by assumption) ?_
        try simp only [Act.put, n1, n2, n3, n4, n5, n6]
        refine wpAnyH_take (i := 10) (v := undef) rfl (by kernel_rfl) (by kernel_rfl) (by kernel_rfl) (fun _ _ _ h => h) (Or.inr ⟨by rfl, rfl⟩) (by assumption) ?_
        try simp only [Act.put, n1, n2, n3, n4, n5, n6]
        refine wpAnyH_take (i := 11) (v := undef) rfl (by kernel_rfl) (by kernel_rfl) (by kernel_rfl) (fun _ _ _ h => h) (Or.inr ⟨by rfl, rfl⟩) (by assumption) ?_
        try simp only [Act.put, n1, n2, n3, n4, n5, n6]
        refine wpAnyH_take (i := 12) (v := undef) rfl (by kernel_rfl) (by kernel_rfl) (by kernel_rfl) (fun _ _ _ h => h) (Or.inr ⟨by rfl, rfl⟩) (by assumption) ?_
        try simp only [Act.put, n1, n2, n3, n4, n5, n6]
        refine tk 13 (v := ?_) ?_
        try simp only [Act.put, n1, n2, n3, n4, n5, n6]
        refine tk 14 (v := ?_) ?_
        try simp only [Act.put, n1, n2, n3, n4, n5, n6]
        refine tk 15 (v := ?_) ?_
        try simp only [Act.put, n1, n2, n3, n4, n5, n6]
        refine wpAnyH_done (by kernel_rfl) ?_ _
        go_wp2
        go_ret2
        exact ⟨by rw [HP.out, HR.out]; rfl, HW.out.drew⟩
    obtain ⟨h, hh⟩ : ∃ h, h = (i + j) / 2 := ⟨_, rfl⟩
    have hlt' : (i : Int) < (j : Int) := by omega
    have hih : i ≤ h := by omega
    have hhj : h < j := by omega
    have hhs : h < s.length := by omega
    have hmid : ((i : Int) + (j : Int)) / 2 = (h : Int) := by omega
    have i0 : (0 : Int) ≤ (h : Int) := by omega
    have i1 : (h : Int) < (s.length : Int) := by omega
    obtain ⟨g, off, rfl, hg, c0, c1, c2, c3⟩ := (H'.out.mono HW.out).cells hhs
    obtain ⟨y, hy⟩ : ∃ y, s[h] = y := ⟨_, rfl⟩
    rw [hy] at c0 c1 c2 c3
    have HE := Lib.hid hy
    clear hy hh
    obtain ⟨⟨n, m⟩, gn, d⟩ := y
    dsimp only at c0 c1 c2 c3
    have hdn : (h : Int).toNat = h := by omega
    go_wp2_with fail
    try simp only [hmid]
    clear hmid
    refine wp_region_held_drew (S := fun w' => w'.cell? ⟨g, off + h * 4, none⟩ = some (.int .i64 n) ∧ w'.cell? ⟨g, off + h * 4 + 1, none⟩ = some (.int .i64 m) ∧ w'.cell? ⟨g, off + h * 4 + 2, none⟩ = some (.bool gn) ∧ w'.cell? ⟨g, off + h * 4 + 3, none⟩ = some (.string d) ∧ w'.cell? ⟨w.heap.size, 0, none⟩ = some (.int .i64 tn) ∧ w'.cell? ⟨w.heap.size, 1, none⟩ = some (.int .i64 tm) ∧ w'.cell? ⟨w.heap.size, 2, none⟩ = some (.bool tg) ∧ w'.cell? ⟨w.heap.size, 3, none⟩ = some (.string td)) (by kernel_rfl) (by first | exact ⟨c0, c1, c2, c3, b0, b1, b2, b3⟩ | assumption | (go_split_ands; refine ⟨?_, ?_, ?_, ?_, ?_, ?_, ?_, ?_⟩ <;> (rw [hb.cell (by first | exact hwz | exact hg)]; assumption))) (fun hHeld => ?_)
    refine tk 0 (v := ?_) ?_
    try simp only [Act.put, n1, n2, n3, n4, n5, n6]
    refine tk 1 (v := ?_) ?_
    try simp only [Act.put, n1, n2, n3, n4, n5, n6]
    refine tk 2 (v := ?_) ?_
    try simp only [Act.put, n1, n2, n3, n4, n5, n6]
    refine tk 3 (v := ?_) ?_
    try simp only [Act.put, n1, n2, n3, n4, n5, n6]
    refine tk 4 (v := ?_) ?_
    try simp only [Act.put, n1, n2, n3, n4, n5, n6]
    refine tk 5 (v := ?_) ?_
    try simp only [Act.put, n1, n2, n3, n4, n5, n6]
    refine wpAnyH_ready (rs := [6]) (by kernel_rfl) (by simp) ?_
    refine AllReadyH.cons rfl (fun K hK => ?_) AllReadyH.nil
    go_simp
    go_at_call 93; refine (sibOrder ((n, m), gn, d) ((tn, tm), tg, td) _).mono ?_; rintro e w1 ⟨rfl, hb⟩; have HQ := Lib.hid (HB.out.drew.trans (hb.mono hwz)); have HV := Lib.hid (HW.out.drew.trans (hb.mono HW.out.size))
    go_wp2_with fail
    refine hK.out _ _ (by first | exact ⟨c0, c1, c2, c3, b0, b1, b2, b3⟩ | assumption | (go_split_ands; refine ⟨?_, ?_, ?_, ?_, ?_, ?_, ?_, ?_⟩ <;> (rw [hb.cell (by first | exact hwz | exact hg)]; assumption))) (fun hHeld => ?_)
    clear hK K
    try simp only [Act.put, n1, n2, n3, n4, n5, n6]
    refine tk 7 (v := ?_) ?_
    try simp only [Act.put, n1, n2, n3, n4, n5, n6]
    refine wpAnyH_done (by kernel_rfl) ?_ _
    cases hless : lessB (n, m) (tn, tm)
    · have hge := ord_ge hless
      have HR := Lib.hid (show ∀ r, h ≤ r → r < s.length → lessB (s.getD r z0).1 (tn, tm) = false from fun r h1 h2 => HI.out.up (by rw [getD_eq s h hhs, HE.out]; exact hless) h1 h2)
      go_wp2
      go_roundw
      case rel => exact ⟨i, h, hih, by omega, rfl, rfl, HLO.out, HR.out, HQ.out⟩
      case measure => go_light; simp [intOf]; omega
    · have hge := ord_lt hless
      have HR := Lib.hid (show ∀ r, r < h + 1 → lessB (s.getD r z0).1 (tn, tm) = true from fun r h1 => HI.out.down hhs (by rw [getD_eq s h hhs, HE.out]; exact hless) (by omega))
      go_wp2
      go_roundw
      case rel => exact ⟨h + 1, j, by omega, hj, by go_num, rfl, HR.out, HHI.out, HQ.out⟩
      case measure => go_light; simp [intOf]; omega

set_option maxRecDepth 100000 in
theorem has_ (a : Option Addr) (cap : Nat) (s : List Sib) (x : Sib) (w : World) (hs : s.length ≤ 1000000) (hi : Mono s) (h' : SibsAt w a s) :
    Calls Try.prog 65 #[.agg #[.slice a s.length cap, ordF], sv x] w fun e w' => e = .returned (.bool (hasDot s x.1)) ∧ Below w.heap.size w w' := by
  have H' := Lib.hid h'
  clear h'
  have HX := Lib.hid (((Below.refl w.heap.size w).alloc (Nat.le_refl _) (.cells #[.slice a s.length cap, ordF] 69)).alloc (by simp) (.cells #[.int .i64 x.1.1, .int .i64 x.1.2, .bool x.2.1, .string x.2.2] 48))
  unfold sv ordF
  unfold ordF at HX
  go_enter Try.func65, Try.ntmps65
  go_wp2_with fail
  refine (bsearch a cap s x _ hs hi (H'.out.mono HX.out)).mono ?_
  rintro e w1 ⟨rfl, hb⟩
  have HV := Lib.hid (HX.out.trans (hb.mono HX.out.size))
  clear hb
  go_wp2
  go_ret
  exact ⟨rfl, HV.out⟩
end Go.Proofs.Ytiphlffcgjdoaaa.Sb
