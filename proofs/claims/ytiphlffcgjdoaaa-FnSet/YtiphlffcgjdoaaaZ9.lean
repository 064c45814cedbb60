/- Parts of a law: SetHas, Merge, SetSyncI. Conditions: on sizes, as each says. -/
import Derived.Test.YtiphlffcgjdoaaaZ1
import Derived.Test.YtiphlffcgjdoaaaZ4
import Derived.Test.YtiphlffcgjdoaaaZ8
import Derived.Test.YtiphlffcgjdoaaaZ5
import Derived.Deep.RegionHeld3
import Derived.Test.YtiphlffcgjdoaaaZ7
import Derived.Test.YtiphlffcgjdoaaaZ3
import Derived.Test.YtiphlffcgjdoaaaZ6
set_option linter.unusedSimpArgs false
set_option linter.unusedVariables false
namespace Go.Proofs.Ytiphlffcgjdoaaa.Sb
open Go.RowKit Go.Proofs.Ytiphlffcgjdoaaa.Mk Go.Proofs.Ytiphlffcgjdoaaa.Rw

theorem setB_short {l : List (Int × Int)} {s : List Sib} (h : setB l s = true) : s.length ≤ 8 := (of_decide_eq_true h : SetOk l s).2.1
set_option maxRecDepth 100000 in
set_option maxHeartbeats 1000000 in
theorem spec_at (a : Option Addr) (cap : Nat) (s : List Sib) (d : Int × Int) (w : World) (hs : s.length ≤ maxLen) (h' : SibsAt w a s) :
    Calls Try.prog 66 #[.slice a s.length cap, mv d] w fun e w' => e = .returned (.int .i64 (atI s d)) ∧ Below w.heap.size w w' := by
  have H' := Lib.hid h'
  clear h'
  unfold maxLen at hs
  obtain ⟨x, y⟩ := d
  unfold mv
  dsimp only
  have hb0 := Lib.hid (step_alloc w (.cells #[.int .i64 x, .int .i64 y] 30))
  go_enter Try.func66, Try.ntmps66
  go_wp2
  go_loopw [5] (fun i wr => ∃ (k : Nat), k ≤ s.length ∧ i = .int .i64 k ∧ (∀ q, q < k → ¬ (s.getD q z0).1 = (x, y)) ∧ Below (w.heap.size + 1) (w.alloc (.cells #[.int .i64 x, .int .i64 y] 30)) wr) (fun i _ => s.length - (intOf i).toNat)
  case atStart => exact ⟨0, Nat.zero_le _, rfl, fun q h => by omega, Below.refl _ _⟩
  case round =>
    obtain ⟨k, hk, rfl, hu, hbel⟩ := hrel
    have HU := Lib.hid hu
    have HB := Lib.hid hbel
    have HW := Lib.hid (hb0.out.trans (hbel.mono (by simp)))
    obtain ⟨b0, b1, _⟩ := ((Cells.new w #[.int .i64 x, .int .i64 y] 30).below (hbel.mono (by simp))).c2
    clear hu hbel
    by_cases hlt : k < s.length
    rotate_left
    · have HR := Lib.hid (atI_none (s := s) (d := (x, y)) (fun q hq => HU.out q (by omega)))
      go_wp2
      go_ret
      exact ⟨ret_i64 HR.out.symm, HW.out⟩
    obtain ⟨g, off, rfl, hg, c0, c1, c2, c3⟩ := (H'.out.mono HW.out).cells hlt
    obtain ⟨z, hz⟩ : ∃ z, s[k] = z := ⟨_, rfl⟩
    rw [hz] at c0 c1 c2 c3
    have HE := Lib.hid hz
    clear hz
    obtain ⟨⟨n, m⟩, gn, dd⟩ := z
    dsimp only at c0 c1 c2 c3
    have i0 : (0 : Int) ≤ (k : Int) := by omega
    have i1 : (k : Int) < (s.length : Int) := by omega
    by_cases hx : n = x
    · by_cases hy : m = y
      · subst hx hy
        have HR := Lib.hid (atI_at hlt HU.out (by rw [HE.out]))
        go_wp2_with fail
        refine wp_region_held_drew (S := fun w' => w'.cell? ⟨g, off + k * 4, none⟩ = some (.int .i64 n) ∧ w'.cell? ⟨g, off + k * 4 + 1, none⟩ = some (.int .i64 m) ∧ w'.cell? ⟨w.heap.size, 0, none⟩ = some (.int .i64 n) ∧ w'.cell? ⟨w.heap.size, 1, none⟩ = some (.int .i64 m)) (by kernel_rfl) (by first | exact ⟨c0, c1, b0, b1⟩ | assumption) (fun hHeld => ?_)
        refine tk 0 (v := ?_) ?_
        try simp only [Act.put, n1, n2, n3, n4, n5, n6]
        refine tk 1 (v := ?_) ?_
        try simp only [Act.put, n1, n2, n3, n4, n5, n6]
        refine tk 2 (v := ?_) ?_
        try simp only [Act.put, n1, n2, n3, n4, n5, n6]
        refine tk 3 (v := ?_) ?_
        try simp only [Act.put, n1, n2, n3, n4, n5, n6]
        refine tk 4 (v := ?_) ?_
        try simp only [Act.put, n1, n2, n3, n4, n5, n6]
        refine tk 5 (v := ?_) ?_
        try simp only [Act.put, n1, n2, n3, n4, n5, n6]
        refine tk 6 (v := ?_) ?_
        try simp only [Act.put, n1, n2, n3, n4, n5, n6]
        refine wpAnyH_done (by kernel_rfl) ?_ _
        go_wp2
        go_ret
        exact ⟨ret_i64 HR.out.symm, HW.out.drew⟩
      · subst hx
        have HR := Lib.hid (show ∀ q, q < k + 1 → ¬ (s.getD q z0).1 = (n, y) from fun q h1 => by
          by_cases e : q = k
          · subst e; rw [getD_eq s q hlt, HE.out]; simp [hy]
          · exact HU.out q (by omega))
        go_wp2_with fail
        refine wp_region_held_drew (S := fun w' => w'.cell? ⟨g, off + k * 4, none⟩ = some (.int .i64 n) ∧ w'.cell? ⟨g, off + k * 4 + 1, none⟩ = some (.int .i64 m) ∧ w'.cell? ⟨w.heap.size, 0, none⟩ = some (.int .i64 n) ∧ w'.cell? ⟨w.heap.size, 1, none⟩ = some (.int .i64 y)) (by kernel_rfl) (by first | exact ⟨c0, c1, b0, b1⟩ | assumption) (fun hHeld => ?_)
        refine tk 0 (v := ?_) ?_
        try simp only [Act.put, n1, n2, n3, n4, n5, n6]
        refine tk 1 (v := ?_) ?_
        try simp only [Act.put, n1, n2, n3, n4, n5, n6]
        refine tk 2 (v := ?_) ?_
        try simp only [Act.put, n1, n2, n3, n4, n5, n6]
        refine tk 3 (v := ?_) ?_
        try simp only [Act.put, n1, n2, n3, n4, n5, n6]
        refine tk 4 (v := ?_) ?_
        try simp only [Act.put, n1, n2, n3, n4, n5, n6]
        refine tk 5 (v := ?_) ?_
        try simp only [Act.put, n1, n2, n3, n4, n5, n6]
        refine tk 6 (v := ?_) ?_
        try simp only [Act.put, n1, n2, n3, n4, n5, n6]
        refine wpAnyH_done (by kernel_rfl) ?_ _
        go_wp2
        go_roundw
        case rel => exact ⟨k + 1, by omega, by go_num, HR.out, HB.out.drew⟩
        case measure => go_light; simp [intOf]; omega
    · have HR := Lib.hid (show ∀ q, q < k + 1 → ¬ (s.getD q z0).1 = (x, y) from fun q h1 => by
        by_cases e : q = k
        · subst e; rw [getD_eq s q hlt, HE.out]; simp [hx]
        · exact HU.out q (by omega))
      go_wp2_with fail
      refine wp_region_held_drew (S := fun w' => w'.cell? ⟨g, off + k * 4, none⟩ = some (.int .i64 n) ∧ w'.cell? ⟨g, off + k * 4 + 1, none⟩ = some (.int .i64 m) ∧ w'.cell? ⟨w.heap.size, 0, none⟩ = some (.int .i64 x) ∧ w'.cell? ⟨w.heap.size, 1, none⟩ = some (.int .i64 y)) (by kernel_rfl) (by first | exact ⟨c0, c1, b0, b1⟩ | assumption) (fun hHeld => ?_)
      refine tk 0 (v := ?_) ?_
      try simp only [Act.put, n1, n2, n3, n4, n5, n6]
      refine tk 1 (v := ?_) ?_
      try simp only [Act.put, n1, n2, n3, n4, n5, n6]
      refine tk 2 (v := ?_) ?_
      try simp only [Act.put, n1, n2, n3, n4, n5, n6]
      refine tk 3 (v := ?_) ?_
      try simp only [Act.put, n1, n2, n3, n4, n5, n6]
      refine tk 4 (v := ?_) ?_
      try simp only [Act.put, n1, n2, n3, n4, n5, n6]
      refine tk 5 (v := ?_) ?_
      try simp only [Act.put, n1, n2, n3, n4, n5, n6]
      refine tk 6 (v := ?_) ?_
      try simp only [Act.put, n1, n2, n3, n4, n5, n6]
      refine wpAnyH_done (by kernel_rfl) ?_ _
      go_wp2
      go_roundw
      case rel => exact ⟨k + 1, by omega, by go_num, HR.out, HB.out.drew⟩
      case measure => go_light; simp [intOf]; omega

set_option maxRecDepth 100000 in
set_option maxHeartbeats 1000000 in
theorem spec_setHas (a b : Option Addr) (cap cap' : Nat) (l : List (Int × Int)) (s : List Sib) (d : Int × Int) (w : World) (hl : l.length ≤ maxLen) (hs : s.length ≤ maxLen) (hd : SmallData s) (h : MarksAt w a l) (h' : SibsAt w b s) :
    Calls Try.prog 18 #[.agg #[.slice a l.length cap, .slice b s.length cap'], mv d] w fun e w' => e = .returned (.bool (setHas l s d)) ∧ Below w.heap.size w w' := by
  have H := Lib.hid h
  have H' := Lib.hid h'
  clear h h'
  obtain ⟨x, y⟩ := d
  unfold mv
  dsimp only
  have HX := Lib.hid (((Below.refl w.heap.size w).alloc (Nat.le_refl _) (.cells #[.slice a l.length cap, .slice b s.length cap'] 26)).alloc (by simp) (.cells #[.int .i64 x, .int .i64 y] 30))
  cases hr : setB l s
  · have HR := Lib.hid (show setHas l s (x, y) = false by unfold setHas; rw [hr]; rfl)
    go_enter Try.func18, Try.ntmps18
    go_wp2_with (go_at_call 23; refine (spec_setRight a b cap cap' l s _ hl hs hd (H.out.mono HX.out) (H'.out.mono HX.out)).mono ?_; rintro e w1 ⟨rfl, hb⟩; rw [hr]; have HB1 := Lib.hid (HX.out.trans (hb.mono HX.out.size)))
    go_ret
    exact ⟨ret_bool HR.out.symm, HB1.out⟩
  · have HR := Lib.hid (show setHas l s (x, y) = decide (0 ≤ atI s (x, y)) by unfold setHas; rw [hr, atI_has]; rfl)
    go_enter Try.func18, Try.ntmps18
    go_wp2_with fail
    refine (spec_setRight a b cap cap' l s _ hl hs hd (H.out.mono HX.out) (H'.out.mono HX.out)).mono ?_
    rintro e w1 ⟨rfl, hb⟩
    rw [hr]
    have HB1 := Lib.hid (HX.out.trans (hb.mono HX.out.size))
    obtain ⟨hc, _⟩ := bcell hb
    clear hb
    go_wp2_with fail
    refine (spec_at b cap' s (x, y) _ hs (H'.out.mono HB1.out)).mono ?_
    rintro e w2 ⟨rfl, hb⟩
    have HB2 := Lib.hid (HB1.out.trans (hb.mono HB1.out.size))
    clear hb hc
    go_wp2
    go_ret
    exact ⟨ret_bool HR.out.symm, HB2.out⟩

set_option maxRecDepth 100000 in
set_option maxHeartbeats 1000000 in
theorem impl_setHas (a b : Option Addr) (cap cap' : Nat) (l : List (Int × Int)) (s : List Sib) (d : Int × Int) (w : World) (hl : l.length ≤ maxLen) (hs : s.length ≤ maxLen) (hd : SmallData s) (hwd : WfDots s) (h : MarksAt w a l) (h' : SibsAt w b s) :
    Calls Try.prog 17 #[.agg #[.slice a l.length cap, .slice b s.length cap'], mv d] w fun e w' => e = .returned (.bool (setHas l s d)) ∧ Below w.heap.size w w' := by
  have H := Lib.hid h
  have H' := Lib.hid h'
  clear h h'
  obtain ⟨x, y⟩ := d
  unfold mv
  dsimp only
  have HX := Lib.hid ((((Below.refl w.heap.size w).alloc (Nat.le_refl _) (.cells #[.slice a l.length cap, .slice b s.length cap'] 26)).alloc (by simp) (.cells #[.int .i64 x, .int .i64 y] 30)).drew)
  have ya : w.heap.size < ((w.alloc (.cells #[.slice a l.length cap, .slice b s.length cap'] 26)).alloc (.cells #[.int .i64 x, .int .i64 y] 30)).heap.size := by simp; omega
  have yb : w.heap.size + 1 < ((w.alloc (.cells #[.slice a l.length cap, .slice b s.length cap'] 26)).alloc (.cells #[.int .i64 x, .int .i64 y] 30)).heap.size := by simp
  obtain ⟨p0, p1, _⟩ := ((Cells.new w #[.slice a l.length cap, .slice b s.length cap'] 26).below (step_alloc _ (.cells #[.int .i64 x, .int .i64 y] 30))).c2
  have hq := (Cells.new (w.alloc (.cells #[.slice a l.length cap, .slice b s.length cap'] 26)) #[.int .i64 x, .int .i64 y] 30).c2
  rw [World.size_alloc] at hq
  obtain ⟨q0, q1, _⟩ := hq
  cases hr : setB l s
  · have HR := Lib.hid (show setHas l s (x, y) = false by unfold setHas; rw [hr]; rfl)
    go_enter Try.func17, Try.ntmps17
    go_wp2_with fail
    generalize ((w.alloc (.cells #[.slice a l.length cap, .slice b s.length cap'] 26)).alloc (.cells #[.int .i64 x, .int .i64 y] 30)) = wa at HX ya yb p0 p1 q0 q1 ⊢
    refine wp_region_held_drew (S := fun w' => w'.cell? ⟨w.heap.size, 0, none⟩ = some (.slice a l.length cap) ∧ w'.cell? ⟨w.heap.size, 1, none⟩ = some (.slice b s.length cap') ∧ w'.cell? ⟨w.heap.size + 1, 0, none⟩ = some (.int .i64 x) ∧ w'.cell? ⟨w.heap.size + 1, 1, none⟩ = some (.int .i64 y)) (by kernel_rfl) (by first | exact ⟨p0, p1, q0, q1⟩ | assumption | (go_split_ands; refine ⟨?_, ?_, ?_, ?_⟩ <;> (rw [hb.cell (by first | exact za2 | exact zb2 | exact za1 | exact zb1 | exact ya | exact yb)]; assumption))) (fun hHeld => ?_)
    refine tk 0 (v := ?_) ?_
    try simp only [Act.put, n1, n2, n3, n4, n5, n6]
    refine wpAnyH_ready (rs := [1]) (by kernel_rfl) (by simp) ?_
    refine AllReadyH.cons rfl (fun K hK => ?_) AllReadyH.nil
    go_simp
    go_at_call 22; refine (impl_setRight a b cap cap' l s _ hl hs hd hwd (H.out.mono HX.out) (H'.out.mono HX.out)).mono ?_; rintro e w1 ⟨rfl, hb⟩; rw [hr]; have HB1 := Lib.hid (HX.out.trans (hb.mono HX.out.size)); have za1 : w.heap.size < w1.heap.size := Nat.lt_of_lt_of_le ya hb.size; have zb1 : w.heap.size + 1 < w1.heap.size := Nat.lt_of_lt_of_le yb hb.size
    go_wp2_with fail
    refine hK.out _ _ (by first | exact ⟨p0, p1, q0, q1⟩ | assumption | (go_split_ands; refine ⟨?_, ?_, ?_, ?_⟩ <;> (rw [hb.cell (by first | exact za2 | exact zb2 | exact za1 | exact zb1 | exact ya | exact yb)]; assumption))) (fun hHeld => ?_)
    clear hK K
    try simp only [Act.put, n1, n2, n3, n4, n5, n6]
    refine tk 2 (v := ?_) ?_
    try simp only [Act.put, n1, n2, n3, n4, n5, n6]
    refine wpAnyH_take (i := 3) (v := undef) rfl (by kernel_rfl) (by kernel_rfl) (by kernel_rfl) (fun _ _ _ h => h) (Or.inr ⟨by rfl, rfl⟩) (by assumption) ?_
    try simp only [Act.put, n1, n2, n3, n4, n5, n6]
    refine wpAnyH_take (i := 4) (v := undef) rfl (by kernel_rfl) (by kernel_rfl) (by kernel_rfl) (fun _ _ _ h => h) (Or.inr ⟨by rfl, rfl⟩) (by assumption) ?_
    try simp only [Act.put, n1, n2, n3, n4, n5, n6]
    refine wpAnyH_take (i := 5) (v := undef) rfl (by kernel_rfl) (by kernel_rfl) (by kernel_rfl) (fun _ _ _ h => h) (Or.inr ⟨by rfl, rfl⟩) (by assumption) ?_
    try simp only [Act.put, n1, n2, n3, n4, n5, n6]
    refine wpAnyH_take (i := 6) (v := undef) rfl (by kernel_rfl) (by kernel_rfl) (by kernel_rfl) (fun _ _ _ h => h) (Or.inr ⟨by rfl, rfl⟩) (by assumption) ?_
    try simp only [Act.put, n1, n2, n3, n4, n5, n6]
    refine wpAnyH_take (i := 7) (v := undef) rfl (by kernel_rfl) (by kernel_rfl) (by kernel_rfl) (fun _ _ _ h => h) (Or.inr ⟨by rfl, rfl⟩) (by assumption) ?_
    try simp only [Act.put, n1, n2, n3, n4, n5, n6]
    refine wpAnyH_take (i := 8) (v := undef) rfl (by kernel_rfl) (by kernel_rfl) (by kernel_rfl) (fun _ _ _ h => h) (Or.inr ⟨by rfl, rfl⟩) (by assumption) ?_
    try simp only [Act.put, n1, n2, n3, n4, n5, n6]
    refine tk 9 (v := ?_) ?_
    try simp only [Act.put, n1, n2, n3, n4, n5, n6]
    refine tk 10 (v := ?_) ?_
    try simp only [Act.put, n1, n2, n3, n4, n5, n6]
    refine wpAnyH_done (by kernel_rfl) ?_ _
    go_wp2
    go_ret
    exact ⟨ret_bool HR.out.symm, HB1.out⟩
  · have HR := Lib.hid (show setHas l s (x, y) = hasDot s (x, y) by unfold setHas; rw [hr]; rfl)
    go_enter Try.func17, Try.ntmps17
    go_wp2_with fail
    generalize ((w.alloc (.cells #[.slice a l.length cap, .slice b s.length cap'] 26)).alloc (.cells #[.int .i64 x, .int .i64 y] 30)) = wa at HX ya yb p0 p1 q0 q1 ⊢
    refine wp_region_held_drew (S := fun w' => w'.cell? ⟨w.heap.size, 0, none⟩ = some (.slice a l.length cap) ∧ w'.cell? ⟨w.heap.size, 1, none⟩ = some (.slice b s.length cap') ∧ w'.cell? ⟨w.heap.size + 1, 0, none⟩ = some (.int .i64 x) ∧ w'.cell? ⟨w.heap.size + 1, 1, none⟩ = some (.int .i64 y)) (by kernel_rfl) (by first | exact ⟨p0, p1, q0, q1⟩ | assumption | (go_split_ands; refine ⟨?_, ?_, ?_, ?_⟩ <;> (rw [hb.cell (by first | exact za2 | exact zb2 | exact za1 | exact zb1 | exact ya | exact yb)]; assumption))) (fun hHeld => ?_)
    refine tk 0 (v := ?_) ?_
    try simp only [Act.put, n1, n2, n3, n4, n5, n6]
    refine wpAnyH_ready (rs := [1]) (by kernel_rfl) (by simp) ?_
    refine AllReadyH.cons rfl (fun K hK => ?_) AllReadyH.nil
    go_simp
    go_at_call 22; refine (impl_setRight a b cap cap' l s _ hl hs hd hwd (H.out.mono HX.out) (H'.out.mono HX.out)).mono ?_; rintro e w1 ⟨rfl, hb⟩; rw [hr]; have HB1 := Lib.hid (HX.out.trans (hb.mono HX.out.size)); have za1 : w.heap.size < w1.heap.size := Nat.lt_of_lt_of_le ya hb.size; have zb1 : w.heap.size + 1 < w1.heap.size := Nat.lt_of_lt_of_le yb hb.size
    go_wp2_with fail
    refine hK.out _ _ (by first | exact ⟨p0, p1, q0, q1⟩ | assumption | (go_split_ands; refine ⟨?_, ?_, ?_, ?_⟩ <;> (rw [hb.cell (by first | exact za2 | exact zb2 | exact za1 | exact zb1 | exact ya | exact yb)]; assumption))) (fun hHeld => ?_)
    clear hK K
    try simp only [Act.put, n1, n2, n3, n4, n5, n6]
    refine tk 2 (v := ?_) ?_
    try simp only [Act.put, n1, n2, n3, n4, n5, n6]
    refine tk 3 (v := ?_) ?_
    try simp only [Act.put, n1, n2, n3, n4, n5, n6]
    refine tk 4 (v := ?_) ?_
    try simp only [Act.put, n1, n2, n3, n4, n5, n6]
    refine tk 6 (v := ?_) ?_
    try simp only [Act.put, n1, n2, n3, n4, n5, n6]
    refine tk 7 (v := ?_) ?_
    try simp only [Act.put, n1, n2, n3, n4, n5, n6]
    refine wpAnyH_ready (rs := [5]) (by kernel_rfl) (by simp) ?_
    refine AllReadyH.cons rfl (fun K hK => ?_) AllReadyH.nil
    go_simp
    go_at_call 64; refine (sortedSibs b s.length cap' _).mono ?_; rintro e w2 ⟨rfl, hb⟩; have HB2 := Lib.hid (HB1.out.trans (hb.mono HB1.out.size)); have za2 : w.heap.size < w2.heap.size := Nat.lt_of_lt_of_le za1 hb.size; have zb2 : w.heap.size + 1 < w2.heap.size := Nat.lt_of_lt_of_le zb1 hb.size
    go_wp2_with fail
    refine hK.out _ _ (by first | exact ⟨p0, p1, q0, q1⟩ | assumption | (go_split_ands; refine ⟨?_, ?_, ?_, ?_⟩ <;> (rw [hb.cell (by first | exact za2 | exact zb2 | exact za1 | exact zb1 | exact ya | exact yb)]; assumption))) (fun hHeld => ?_)
    clear hK K
    try simp only [Act.put, n1, n2, n3, n4, n5, n6]
    refine wpAnyH_ready (rs := [8]) (by kernel_rfl) (by simp) ?_
    refine AllReadyH.cons rfl (fun K hK => ?_) AllReadyH.nil
    go_simp
    go_at_call 65; refine (has_ b cap' s ((x, y), false, ByteArray.empty) _ (by unfold maxLen at hs; have := setB_short hr; omega) (setB_incs hr).mono (H'.out.mono HB2.out)).mono ?_; rintro e w3 ⟨rfl, hb⟩; have HB3 := Lib.hid (HB2.out.trans (hb.mono HB2.out.size)); have za3 : w.heap.size < w3.heap.size := Nat.lt_of_lt_of_le za2 hb.size; have zb3 : w.heap.size + 1 < w3.heap.size := Nat.lt_of_lt_of_le zb2 hb.size
    go_wp2_with fail
    refine hK.out _ _ (by first | exact ⟨p0, p1, q0, q1⟩ | assumption | (go_split_ands; refine ⟨?_, ?_, ?_, ?_⟩ <;> (rw [hb.cell (by first | exact za2 | exact zb2 | exact za1 | exact zb1 | exact ya | exact yb)]; assumption))) (fun hHeld => ?_)
    clear hK K
    try simp only [Act.put, n1, n2, n3, n4, n5, n6]
    refine tk 9 (v := ?_) ?_
    try simp only [Act.put, n1, n2, n3, n4, n5, n6]
    refine tk 10 (v := ?_) ?_
    try simp only [Act.put, n1, n2, n3, n4, n5, n6]
    refine wpAnyH_done (by kernel_rfl) ?_ _
    go_wp2
    go_ret
    exact ⟨ret_bool HR.out.symm, HB3.out⟩
end Go.Proofs.Ytiphlffcgjdoaaa.Sb

namespace Go.Proofs.Ytiphlffcgjdoaaa.Sb
open Go.RowKit Go.Shelf Go.Proofs.Ytiphlffcgjdoaaa.Mk Go.Proofs.Ytiphlffcgjdoaaa.Rw
attribute [local go_sem] Oper.semAt_some

theorem anyDepth {m : Nat} (m' : Nat) {P : Program} {l : Nat} {args : Array Value} {W : World} {R : Ending → World → Prop} (h : YieldAt Fence.wide m P l args W R) : YieldAt Fence.wide m' P l args W R := by
  obtain ⟨fn, tmps, assign, body, hy, hR⟩ := h
  exact ⟨fn, tmps, assign, body, hy, hR.1, fun c cs _ => hR.2 c cs (fun d h => by cases h)⟩
/-- of s, what t shares or l has not -/
def mrg (s t : List Sib) (l : List (Int × Int)) : List Sib := s.filter fun x => hasDot t x.1 || !hasB l x.1
theorem mrg_take (s t : List Sib) (l : List (Int × Int)) (k : Nat) (h : k < s.length) : mrg (s.take (k + 1)) t l = mrg (s.take k) t l ++ (if (hasDot t s[k].1 || !hasB l s[k].1) = true then [s[k]] else []) := by
  unfold mrg
  rw [List.take_succ_eq_append_getElem h, List.filter_append]
  cases e : (hasDot t s[k].1 || !hasB l s[k].1) <;> simp [e]
theorem mrg_le (s t : List Sib) (l : List (Int × Int)) (k : Nat) : (mrg (s.take k) t l).length ≤ k := Nat.le_trans (List.length_filter_le _ _) (by rw [List.length_take]; omega)
set_option maxRecDepth 100000 in
set_option maxHeartbeats 4000000 in
theorem merged1_T (n ba bb : Nat) (am bm as_ bs_ : Option Addr) (c1 c2 c3 c4 : Nat) (la lb : List (Int × Int)) (sa sb : List Sib) (hn : 6 ≤ n) (hsa : sa.length ≤ 400) (hsb : sb.length ≤ 400) (hla : la.length ≤ maxLen) (hlb : lb.length ≤ maxLen) (hwa : WfDots sa) (hwb : WfDots sb) (hinc : Mono sb) (w W0 : World)
    (hca : Cells w ba [.slice am la.length c1, .slice as_ sa.length c2]) (hcb : Cells w bb [.slice bm lb.length c3, .slice bs_ sb.length c4]) (hma : MarksAt w am la) (hmb : MarksAt w bm lb) (hra : SibsAt w as_ sa) (hrb : SibsAt w bs_ sb) (hb : Below w.heap.size w W0) :
    SeqT n 95 #[.pointer (some ⟨bb, 0, none⟩), .pointer (some ⟨ba, 0, none⟩)] (KpX w.heap.size (W0.heap.size + 2) 0) (mrg sa sb lb ++ uns sb la) (sa.length + sb.length) W0 := fun lp J W hW hW2 hJ hY h0 => by
  have hJa : ∀ pre W1 W2, J pre W1 → Below W1.heap.size W1 W2 → J pre W2 := fun pre W1 W2 hj hb => hJ pre W1 W2 none hj (grown_of hb) (fun r e => by cases e)
  have h1 : 1 ≤ n := by omega
  have hBW : Below w.heap.size w W := hb.trans (hW.mono hb.size)
  have hzW : W0.heap.size + 2 ≤ W.heap.size := hW2
  have MA := Lib.hid hma
  have MB := Lib.hid hmb
  have RA := Lib.hid hra
  have RB := Lib.hid hrb
  have CA := Lib.hid hca
  have CB := Lib.hid hcb
  clear hma hmb hra hrb hca hcb
  refine callsIn_of_wp_marks Try.func95 rfl trivial ?_ rfl
  simp only [Try.ntmps95, List.size_toArray, List.length_cons, List.length_nil, Nat.reduceAdd, Nat.reduceSub, Array.replicate_succ, Array.replicate_zero, List.push_toArray, List.append_toArray, List.nil_append, List.cons_append]
  have hb1 := step_alloc W (.cells #[.func (.yield lp) #[] #[]] 95)
  have cY := Cells.new W #[.func (.yield lp) #[] #[]] 95
  have j1 := hJa _ _ _ h0 hb1
  have hB1 : Below w.heap.size w (W.alloc (.cells #[.func (.yield lp) #[] #[]] 95)) := hBW.trans (hb1.mono hBW.size)
  obtain ⟨p0, p1, _⟩ := (CA.out.below hB1).c2
  obtain ⟨q0, q1, _⟩ := (CB.out.below hB1).c2
  gi_wp2_with (refine ⟨trivial, ?_⟩; gi_at_call 64; refine (callsIn_wide.2 (sortedSibs _ _ _ _)).mono ?_; rintro e w1 ⟨rfl, hb2⟩; unfold ordF; clear p0 p1 q0 q1; have hb3 := step_alloc w1 (.cells #[.slice bs_ sb.length c4, .func (.func 93) #[] #[]] 69); have hB3 : Below w.heap.size w (w1.alloc (.cells #[.slice bs_ sb.length c4, .func (.func 93) #[] #[]] 69)) := (hB1.trans (hb2.mono hB1.size)).trans (hb3.mono (by have := hB1.size; have := hb2.size; omega)); obtain ⟨p0, p1, _⟩ := (CA.out.below hB3).c2)
  have cT := Cells.new w1 #[.slice bs_ sb.length c4, .func (.func 93) #[] #[]] 69
  have j3 := hJa _ _ _ (hJa _ _ _ j1 hb2) hb3
  have cY3 := (cY.below hb2).below hb3
  have hzT : W0.heap.size + 2 ≤ w1.heap.size := by have := hb2.size; simp at this; omega
  simp only [List.toList_toArray] at cT cY3
  clear hb1 hb2 hb3 j1 cY p0 p1
  obtain ⟨T, hT⟩ : ∃ T, w1.heap.size = T := ⟨_, rfl⟩
  obtain ⟨Y, hYy⟩ : ∃ Y, W.heap.size = Y := ⟨_, rfl⟩
  have hzY : W0.heap.size + 2 ≤ Y := by omega
  generalize w1.alloc (.cells #[.slice bs_ sb.length c4, .func (.func 93) #[] #[]] 69) = w3 at cT j3 cY3 hB3 ⊢
  rw [hT] at cT hzT ⊢
  rw [hYy] at cY3 ⊢
  clear hT
  gi_loopw [14] (fun i wr => ∃ k : Nat, k ≤ sa.length ∧ i = .int .i64 k ∧ J (mrg (sa.take k) sb lb) wr ∧ Below w.heap.size w wr ∧ Cells wr Y [.func (.yield lp) #[] #[]] ∧ Cells wr T [.slice bs_ sb.length c4, .func (.func 93) #[] #[]])
    (fun i _ => sa.length - (intOf i).toNat)
  case atStart => exact ⟨0, Nat.zero_le _, rfl, by simpa [mrg] using j3, hB3, cY3, cT⟩
  case round =>
    obtain ⟨k, hk, rfl, hJs, hnx, hcY, hcT⟩ := hrel
    have HN := Lib.hid hnx
    have HJ := Lib.hid hJs
    have HY := Lib.hid hcY
    have HT := Lib.hid hcT
    clear hJs hnx hcY hcT cY3 cT hB3 j3
    by_cases hlt : k < sa.length
    · obtain ⟨g, off, rfl, hg, d0, d1, d2, d3⟩ := (RA.out.mono HN.out).cells hlt
      have hwf := hwa sa[k] (List.getElem_mem hlt)
      have HU := Lib.hid (mrg_take sa sb lb k hlt)
      have hlen := mrg_le sa sb lb k
      obtain ⟨x, hx⟩ : ∃ x, sa[k] = x := ⟨_, rfl⟩
      rw [hx] at d0 d1 d2 d3 hwf HU
      clear hx
      obtain ⟨⟨tn, tm⟩, tg, td⟩ := x
      dsimp only at d0 d1 d2 d3 hwf HU
      have hb0 := Lib.hid (step_alloc wr (.cells #[.int .i64 tn, .int .i64 tm, .bool tg, .string td] 48))
      have HX := Lib.hid (Cells.new wr #[.int .i64 tn, .int .i64 tm, .bool tg, .string td] 48)
      have HN0 := Lib.hid (HN.out.trans (hb0.out.mono HN.out.size))
      have HY0 := Lib.hid (HY.out.below hb0.out)
      have HT0 := Lib.hid (HT.out.below hb0.out)
      have RB0 := Lib.hid (RB.out.mono HN0.out)
      obtain ⟨t0, t1, _⟩ := HT0.out.c2
      cases hhas : hasDot sb (tn, tm)
      · cases hseen : hasB lb (tn, tm)
        · -- neither shared nor seen: yielded
          have HS := Lib.hid (show mrg (sa.take (k + 1)) sb lb = mrg (sa.take k) sb lb ++ [((tn, tm), tg, td)] by rw [HU.out, hhas, hseen]; simp)
          gi_wp2_with (first
            | (refine ⟨trivial, ?_⟩; gi_at_call 65; refine (callsIn_wide.2 (has_ bs_ c4 sb ((tn, tm), tg, td) _ (by omega) hinc RB0.out)).mono ?_; rintro e w4 ⟨rfl, hb⟩; rw [hhas]; have HN1 := Lib.hid (HN0.out.trans (hb.mono HN0.out.size)); have HB1 := Lib.hid (hb0.out.trans (hb.mono hb0.out.size)); obtain ⟨q0, q1, _⟩ := (CB.out.below HN1.out).c2; have HX1 := Lib.hid (HX.out.below hb); obtain ⟨x0, x1, x2, x3, _⟩ := HX1.out.c4; have HY1 := Lib.hid (HY0.out.below hb); have HT1 := Lib.hid (HT0.out.below hb); have MB1 := Lib.hid (MB.out.mono HN1.out); clear hb t0 t1)
            | (refine ⟨trivial, ?_⟩; gi_at_call 26; refine (callsIn_wide.2 (impl_seenHas bm c3 lb (tn, tm) _ hlb hwf MB1.out)).mono ?_; rintro e w5 ⟨rfl, hb⟩; rw [hseen]; have HN2 := Lib.hid (HN1.out.trans (hb.mono HN1.out.size)); have HB2 := Lib.hid (HB1.out.trans (hb.mono HB1.out.size)); clear q0 q1 x0 x1 x2 x3; have HX2 := Lib.hid (HX1.out.below hb); obtain ⟨x0, x1, x2, x3, _⟩ := HX2.out.c4; have HY2 := Lib.hid (HY1.out.below hb); have HT2 := Lib.hid (HT1.out.below hb); have y0 := HY2.out.cell 0 (by simp); simp only [List.getElem_cons_zero] at y0; clear hb; obtain ⟨fn, tmps, assign, body, hy, hR⟩ := hY (mrg (sa.take k) sb lb) ((tn, tm), tg, td) w5 (hJa _ _ _ HJ.out HB2.out) (by omega); unfold sv at hy; dsimp only at hy))
          refine hR.mono ?_
          rintro e W3 ⟨rfl, hJ3, hk3⟩
          have HJ3 := Lib.hid hJ3
          have HN3 := Lib.hid (HN2.out.trans hk3.below)
          have HY3 := Lib.hid (Cells.kp HY2.out hk3 (.inr ⟨hzY, by omega⟩))
          have HT3 := Lib.hid (Cells.kp HT2.out hk3 (.inr ⟨hzT, by omega⟩))
          clear hJ3 hk3
          gi_wp2
          go_roundw
          case rel => exact ⟨k + 1, by omega, by go_num, by rw [HS.out]; exact HJ3.out, HN3.out, HY3.out, HT3.out⟩
          case measure => simp [intOf]; omega
        · -- not shared, and seen: passed over
          have HS := Lib.hid (show mrg (sa.take (k + 1)) sb lb = mrg (sa.take k) sb lb by rw [HU.out, hhas, hseen]; simp)
          gi_wp2_with (first
            | (refine ⟨trivial, ?_⟩; gi_at_call 65; refine (callsIn_wide.2 (has_ bs_ c4 sb ((tn, tm), tg, td) _ (by omega) hinc RB0.out)).mono ?_; rintro e w4 ⟨rfl, hb⟩; rw [hhas]; have HN1 := Lib.hid (HN0.out.trans (hb.mono HN0.out.size)); have HB1 := Lib.hid (hb0.out.trans (hb.mono hb0.out.size)); obtain ⟨q0, q1, _⟩ := (CB.out.below HN1.out).c2; have HX1 := Lib.hid (HX.out.below hb); obtain ⟨x0, x1, x2, x3, _⟩ := HX1.out.c4; have HY1 := Lib.hid (HY0.out.below hb); have HT1 := Lib.hid (HT0.out.below hb); have MB1 := Lib.hid (MB.out.mono HN1.out); clear hb t0 t1)
            | (refine ⟨trivial, ?_⟩; gi_at_call 26; refine (callsIn_wide.2 (impl_seenHas bm c3 lb (tn, tm) _ hlb hwf MB1.out)).mono ?_; rintro e w5 ⟨rfl, hb⟩; rw [hseen]; have HN2 := Lib.hid (HN1.out.trans (hb.mono HN1.out.size)); have HB2 := Lib.hid (HB1.out.trans (hb.mono HB1.out.size)); have HY2 := Lib.hid (HY1.out.below hb); have HT2 := Lib.hid (HT1.out.below hb); have HJ2 := Lib.hid (hJa _ _ _ HJ.out HB2.out); clear hb))
          refine ⟨fun _ h => (by cases h), ?_⟩
          gi_wp2
          go_roundw
          case rel => exact ⟨k + 1, by omega, by go_num, by rw [HS.out]; exact HJ2.out, HN2.out, HY2.out, HT2.out⟩
          case measure => simp [intOf]; omega
      · -- shared: yielded
        have HS := Lib.hid (show mrg (sa.take (k + 1)) sb lb = mrg (sa.take k) sb lb ++ [((tn, tm), tg, td)] by rw [HU.out, hhas]; simp)
        gi_wp2_with (refine ⟨trivial, ?_⟩; gi_at_call 65; refine (callsIn_wide.2 (has_ bs_ c4 sb ((tn, tm), tg, td) _ (by omega) hinc RB0.out)).mono ?_; rintro e w4 ⟨rfl, hb⟩; rw [hhas]; have HN1 := Lib.hid (HN0.out.trans (hb.mono HN0.out.size)); have HB1 := Lib.hid (hb0.out.trans (hb.mono hb0.out.size)); obtain ⟨q0, q1, _⟩ := (CB.out.below HN1.out).c2; have HX1 := Lib.hid (HX.out.below hb); obtain ⟨x0, x1, x2, x3, _⟩ := HX1.out.c4; have HY1 := Lib.hid (HY0.out.below hb); have HT1 := Lib.hid (HT0.out.below hb); have MB1 := Lib.hid (MB.out.mono HN1.out); clear hb t0 t1; have y0 := HY1.out.cell 0 (by simp); simp only [List.getElem_cons_zero] at y0; obtain ⟨fn, tmps, assign, body, hy, hR⟩ := hY (mrg (sa.take k) sb lb) ((tn, tm), tg, td) w4 (hJa _ _ _ HJ.out HB1.out) (by omega); unfold sv at hy; dsimp only at hy)
        refine ⟨trivial, ?_⟩
        gi_wp2
        refine hR.mono ?_
        rintro e W3 ⟨rfl, hJ3, hk3⟩
        have HJ3 := Lib.hid hJ3
        have HN3 := Lib.hid (HN1.out.trans hk3.below)
        have HY3 := Lib.hid (Cells.kp HY1.out hk3 (.inr ⟨hzY, by omega⟩))
        have HT3 := Lib.hid (Cells.kp HT1.out hk3 (.inr ⟨hzT, by omega⟩))
        clear hJ3 hk3
        gi_wp2
        go_roundw
        case rel => exact ⟨k + 1, by omega, by go_num, by rw [HS.out]; exact HJ3.out, HN3.out, HY3.out, HT3.out⟩
        case measure => simp [intOf]; omega
    · obtain rfl : k = sa.length := by omega
      obtain ⟨p0, p1, _⟩ := (CA.out.below HN.out).c2
      obtain ⟨q0, q1, _⟩ := (CB.out.below HN.out).c2
      gi_wp2_with (refine ⟨trivial, ?_⟩; gi_at_call 43; refine (callsIn_wide.2 (unseen_ bs_ am sb.length la.length c4 c1 wr)).mono ?_; rintro e w6 ⟨rfl, hu0, hu1, hb6⟩)
      have HN6 := Lib.hid (HN.out.trans (hb6.mono HN.out.size))
      have HY6 := Lib.hid (HY.out.below hb6)
      have hJ6 := hJa _ _ _ HJ.out hb6
      rw [List.take_length] at hJ6
      have hz6 : wr.heap.size + 2 ≤ w6.heap.size := by have := hu1.lt; omega
      have hYlt := HY.out.lt
      have hzr : W0.heap.size + 2 ≤ wr.heap.size := by omega
      have hml : (mrg sa sb lb).length ≤ sa.length := List.length_filter_le _ _
      refine wpIn_rangeT (n := n) (gf := 78) (lb := #[.pointer (some ⟨wr.heap.size, 0, none⟩), .pointer (some ⟨wr.heap.size + 1, 0, none⟩)]) (by first | rfl | simp [go_sem]) (enters_of Try.func78 (by kernel_rfl) rfl)
        (unseen1_T (n - 1) wr.heap.size (wr.heap.size + 1) bs_ am c4 c1 sb la (W0.heap.size + 2) (w6.heap.size + 1) (by omega) (by omega) hla hwb w w6 hu0 hu1 (.inr ⟨by omega, by omega⟩) (.inr ⟨by omega, by omega⟩) MA.out RB.out HN6.out)
        (Below.refl _ _) rfl h1 KpX.trans (KpX.put (by have := HN6.out.size; omega) (by omega))
        (fun pre W' => (J (mrg sa sb lb ++ pre) W' ∧ Cells W' Y [.func (.yield lp) #[] #[]]) ∧ Below w.heap.size w W')
        (fun s X Y' row hs hg hr => ⟨⟨hJ _ X Y' row hs.1.1 hg (fun r e => ⟨by have := (hr r e).1; omega, (hr r e).2⟩), Cells.turn hs.1.2 (by simp) hg (fun r e => (hr r e).2)⟩, hs.2.grown hg hs.2.size (fun k e => by have := (hr k e).1; have := HN6.out.size; omega)⟩)
        ⟨⟨by rw [List.append_nil]; exact hJ6, HY6.out⟩, HN6.out⟩
        (fun x a' W => ∃ Bx, Cells W Bx [.int .i64 x.1.1, .int .i64 x.1.2, .bool x.2.1, .string x.2.2] ∧ a' = { tmps := #[.func (.yield lp) #[] #[], .pointer (some ⟨bb, 0, none⟩), .pointer (some ⟨ba, 0, none⟩), .pointer (some ⟨Y, 0, none⟩), .pointer (some ⟨T, 0, none⟩), undef, u6, .pointer (some ⟨Bx, 0, none⟩), .pointer (some ⟨bb, 1, none⟩), .slice bs_ sb.length c4, .agg #[.slice bs_ sb.length c4, .func (.func 93) #[] #[]], .pointer (some ⟨ba, 1, none⟩), .slice as_ sa.length c2, .int .i64 sa.length, .int .i64 sa.length, .bool false, u16, u17, u18, u19, u20, u21, u22, u23, u24, u25, u26, u27, u28, u29, u30, u31, u32, u33, u34, u35, .pointer (some ⟨bb, 1, none⟩), .slice bs_ sb.length c4, .pointer (some ⟨ba, 0, none⟩), .slice am la.length c1, .func (.func 78) #[] #[.pointer (some ⟨wr.heap.size, 0, none⟩), .pointer (some ⟨wr.heap.size + 1, 0, none⟩)], sv x, undef, undef, undef, undef], defers := [] })
        (fun x a' _ X Y row hs hg hr => by obtain ⟨Bx, h2, h3⟩ := hs; exact ⟨Bx, Cells.turn h2 (by simp) hg (fun r e => (hr r e).2), h3⟩)
        ?assign ?body ?done
      case assign =>
        rintro l2 pre x W2 K ⟨⟨hj, hy2⟩, hn2⟩ hK
        obtain ⟨⟨tn, tm⟩, tg, td⟩ := x
        have hbb := step_alloc W2 (.cells #[.int .i64 tn, .int .i64 tm, .bool tg, .string td] 48)
        unfold sv at hK ⊢
        gi_wp2
        refine hK _ _ (keepsFrom_below hbb) (KpX.of_below hn2.size hbb) ⟨⟨hJa _ _ _ hj hbb, hy2.below hbb⟩, hn2.trans (hbb.mono hn2.size)⟩ ⟨W2.heap.size, ?_, rfl⟩
        exact Cells.new W2 #[.int .i64 tn, .int .i64 tm, .bool tg, .string td] 48
      case body =>
        rintro l2 pre x a' W2 ⟨⟨hj, hy2⟩, hn2⟩ ⟨Bx, bX, rfl⟩ hlt2
        obtain ⟨⟨tn, tm⟩, tg, td⟩ := x
        obtain ⟨x0, x1, x2, x3, _⟩ := bX.c4
        have h1' : 1 ≤ n - 1 - 1 := by omega
        have y0 := hy2.cell 0 (by simp)
        simp only [List.getElem_cons_zero] at y0
        obtain ⟨fn, tmps, assign, body, hy, hR⟩ := anyDepth (n - 1 - 1 - 1) (hY (mrg sa sb lb ++ pre) ((tn, tm), tg, td) W2 hj (by rw [List.length_append]; omega))
        unfold sv at hy
        dsimp only at hy
        gi_wp2
        refine RoundIn.mono (show RoundIn (Fence.wide.inRound l2) _ _ _ _ _ _ _ _ _ from hR) ?_
        rintro e W3 ⟨rfl, hJ3, hk3⟩
        gi_wp2
        exact ⟨hk3.keeps (by omega) _ (by omega), hk3.less (by omega), ⟨by rw [← List.append_assoc]; exact hJ3, Cells.kp hy2 hk3 (.inr ⟨hzY, by omega⟩)⟩, hn2.trans hk3.below⟩
      case done =>
        rintro D W3 hD ⟨⟨hj, hy3⟩, hn3⟩ hK
        gi_wp2
        refine ⟨by simp, .inl ⟨_, _, rfl, run_takeDeferred hK, ?_⟩⟩
        exact ⟨_, results_none rfl _ _ _, ⟨_, rfl⟩, hJ _ _ _ _ hj (grownBy_putObj' W3 D (.deferred none)) (fun r e => by cases e; exact ⟨by omega, _, hK, rfl⟩)⟩
theorem merged_ (a b : Option Addr) (c d : Option Addr) (n1 n2 n3 n4 k1 k2 k3 k4 : Nat) (w : World) :
    Calls Try.prog 72 #[.agg #[.slice a n1 k1, .slice b n2 k2], .agg #[.slice c n3 k3, .slice d n4 k4]] w fun e w' => e = .returned (.func (.func 95) #[] #[.pointer (some ⟨w.heap.size + 1, 0, none⟩), .pointer (some ⟨w.heap.size, 0, none⟩)]) ∧
      Cells w' w.heap.size [.slice a n1 k1, .slice b n2 k2] ∧ Cells w' (w.heap.size + 1) [.slice c n3 k3, .slice d n4 k4] ∧ Below w.heap.size w w' := by
  go_enter Try.func72, Try.ntmps72
  go_wp2
  go_ret
  have hb := step_alloc w (.cells #[.slice a n1 k1, .slice b n2 k2] 26)
  have hb2 := step_alloc (w.alloc (.cells #[.slice a n1 k1, .slice b n2 k2] 26)) (.cells #[.slice c n3 k3, .slice d n4 k4] 26)
  have c0 := Cells.new (w.alloc (.cells #[.slice a n1 k1, .slice b n2 k2] 26)) #[.slice c n3 k3, .slice d n4 k4] 26
  rw [World.size_alloc] at c0
  exact ⟨rfl, (Cells.new w #[.slice a n1 k1, .slice b n2 k2] 26).below hb2, c0, hb.trans (hb2.mono (by simp))⟩
end Go.Proofs.Ytiphlffcgjdoaaa.Sb

namespace Go.Proofs.Ytiphlffcgjdoaaa.Sb
open Go.RowKit Go.Proofs.Ytiphlffcgjdoaaa.Mk Go.Proofs.Ytiphlffcgjdoaaa.Rw

/-- the Sibs of the merged Sets -/
def synL (la : List (Int × Int)) (sa : List Sib) (lb : List (Int × Int)) (sb : List Sib) : List Sib := collect (mrg sa sb lb ++ uns sb la)
def synC (la : List (Int × Int)) (sa : List Sib) (lb : List (Int × Int)) (sb : List Sib) : Int := if setB la sa = true ∧ setB lb sb = true then (if (synL la sa lb sb).length ≤ 8 then 0 else 9) else 1
def synSeen (la : List (Int × Int)) (sa : List Sib) (lb : List (Int × Int)) (sb : List Sib) : List (Int × Int) := if synC la sa lb sb = 0 then joinV la lb else []
def synSibs (la : List (Int × Int)) (sa : List Sib) (lb : List (Int × Int)) (sb : List Sib) : List Sib := if synC la sa lb sb = 0 then synL la sa lb sb else []
theorem synC_form {la : List (Int × Int)} {sa : List Sib} {lb : List (Int × Int)} {sb : List Sib} (h : ¬ (setB la sa = true ∧ setB lb sb = true)) : synC la sa lb sb = 1 ∧ synSeen la sa lb sb = [] ∧ synSibs la sa lb sb = [] := by
  have hc : synC la sa lb sb = 1 := if_neg h
  refine ⟨hc, ?_, ?_⟩
  · unfold synSeen; rw [hc]; rfl
  · unfold synSibs; rw [hc]; rfl
theorem synC_full {la : List (Int × Int)} {sa : List Sib} {lb : List (Int × Int)} {sb : List Sib} (h : setB la sa = true ∧ setB lb sb = true) (h8 : ¬ (synL la sa lb sb).length ≤ 8) : synC la sa lb sb = 9 ∧ synSeen la sa lb sb = [] ∧ synSibs la sa lb sb = [] := by
  have hc : synC la sa lb sb = 9 := by unfold synC; rw [if_pos h, if_neg h8]
  refine ⟨hc, ?_, ?_⟩
  · unfold synSeen; rw [hc]; rfl
  · unfold synSibs; rw [hc]; rfl
theorem synC_ok {la : List (Int × Int)} {sa : List Sib} {lb : List (Int × Int)} {sb : List Sib} (h : setB la sa = true ∧ setB lb sb = true) (h8 : (synL la sa lb sb).length ≤ 8) : synC la sa lb sb = 0 ∧ synSeen la sa lb sb = joinV la lb ∧ synSibs la sa lb sb = synL la sa lb sb := by
  have hc : synC la sa lb sb = 0 := by unfold synC; rw [if_pos h, if_pos h8]
  refine ⟨hc, ?_, ?_⟩
  · unfold synSeen; rw [hc]; rfl
  · unfold synSibs; rw [hc]; rfl
theorem setB_len {l : List (Int × Int)} {s : List Sib} (h : setB l s = true) : s.length ≤ 8 := (of_decide_eq_true h : SetOk l s).2.1
theorem setB_right {l : List (Int × Int)} {s : List Sib} (h : setB l s = true) : rightB l = true := (of_decide_eq_true h : SetOk l s).1
set_option maxRecDepth 100000 in
set_option maxHeartbeats 4000000 in
theorem impl_setSync (am as_ bm bs_ : Option Addr) (c1 c2 c3 c4 : Nat) (la lb : List (Int × Int)) (sa sb : List Sib) (w : World) (hla : la.length ≤ maxLen) (hlb : lb.length ≤ maxLen) (hsa : sa.length ≤ maxLen) (hsb : sb.length ≤ maxLen) (hda : SmallData sa) (hdb : SmallData sb) (hwa : WfDots sa) (hwb : WfDots sb)
    (hma : MarksAt w am la) (hmb : MarksAt w bm lb) (hra : SibsAt w as_ sa) (hrb : SibsAt w bs_ sb) :
    Calls Try.prog 28 #[.agg #[.slice am la.length c1, .slice as_ sa.length c2], .agg #[.slice bm lb.length c3, .slice bs_ sb.length c4]] w (GivesSO w (synSeen la sa lb sb) (synSibs la sa lb sb) 0 0 (synC la sa lb sb)) := by
  have MA := Lib.hid hma
  have MB := Lib.hid hmb
  have RA := Lib.hid hra
  have RB := Lib.hid hrb
  clear hma hmb hra hrb
  obtain ⟨W3, hW3⟩ : ∃ W3, ((w.alloc (.cells #[.slice am la.length c1, .slice as_ sa.length c2] 26)).alloc (.cells #[.slice bm lb.length c3, .slice bs_ sb.length c4] 26)).alloc (.cells #[.slice none 0 0, .slice none 0 0, .int .i64 0, .int .i64 0, .int .i64 0] 32) = W3 := ⟨_, rfl⟩
  have hb1 := step_alloc w (.cells #[.slice am la.length c1, .slice as_ sa.length c2] 26)
  have hb2 := step_alloc (w.alloc (.cells #[.slice am la.length c1, .slice as_ sa.length c2] 26)) (.cells #[.slice bm lb.length c3, .slice bs_ sb.length c4] 26)
  have hb3 := step_alloc ((w.alloc (.cells #[.slice am la.length c1, .slice as_ sa.length c2] 26)).alloc (.cells #[.slice bm lb.length c3, .slice bs_ sb.length c4] 26)) (.cells #[.slice none 0 0, .slice none 0 0, .int .i64 0, .int .i64 0, .int .i64 0] 32)
  have XA := Lib.hid (((Cells.new w #[.slice am la.length c1, .slice as_ sa.length c2] 26).below hb2).below hb3)
  have XB := Lib.hid ((Cells.new (w.alloc (.cells #[.slice am la.length c1, .slice as_ sa.length c2] 26)) #[.slice bm lb.length c3, .slice bs_ sb.length c4] 26).below hb3)
  have XR := Lib.hid (Cells.new ((w.alloc (.cells #[.slice am la.length c1, .slice as_ sa.length c2] 26)).alloc (.cells #[.slice bm lb.length c3, .slice bs_ sb.length c4] 26)) #[.slice none 0 0, .slice none 0 0, .int .i64 0, .int .i64 0, .int .i64 0] 32)
  have D := Lib.hid (show Base w (((w.alloc (.cells #[.slice am la.length c1, .slice as_ sa.length c2] 26)).alloc (.cells #[.slice bm lb.length c3, .slice bs_ sb.length c4] 26)).alloc (.cells #[.slice none 0 0, .slice none 0 0, .int .i64 0, .int .i64 0, .int .i64 0] 32)) from (hb1.trans (hb2.mono (by simp))).trans (hb3.mono (by simp; omega)))
  have hsz : (((w.alloc (.cells #[.slice am la.length c1, .slice as_ sa.length c2] 26)).alloc (.cells #[.slice bm lb.length c3, .slice bs_ sb.length c4] 26)).alloc (.cells #[.slice none 0 0, .slice none 0 0, .int .i64 0, .int .i64 0, .int .i64 0] 32)).heap.size = w.heap.size + 3 := by simp
  simp only [World.size_alloc, List.toList_toArray] at XA XB XR
  clear hb1 hb2 hb3
  rw [hW3] at XA
  rw [hW3] at XB
  rw [hW3] at XR
  rw [hW3] at D
  rw [hW3] at hsz
  go_enter Try.func28, Try.ntmps28
  go_upto_region 1 with fail
  clear hW3
  have R2 := fun (W : World) (h : Base w W) => (⟨MA.out.mono h, MB.out.mono h, SibsAt.mono RA.out h, SibsAt.mono RB.out h⟩ : MarksAt W am la ∧ MarksAt W bm lb ∧ SibsAt W as_ sa ∧ SibsAt W bs_ sb)
  have R2 := Lib.hid R2
  obtain ⟨a0, a1, _⟩ := XA.out.c2
  cases hsA : setB la sa
  · have hno := synC_form (la := la) (sa := sa) (lb := lb) (sb := sb) (by rw [hsA]; simp)
    go_wp2_with (go_at_call 22; refine (impl_setRight am as_ c1 c2 la sa _ hla hsa hda hwa (R2.out _ D.out).1 (R2.out _ D.out).2.2.1).mono ?_; rintro e w1 ⟨rfl, hb⟩; rw [hsA]; replace XR := Lib.hid (XR.out.below hb); replace D := Lib.hid (D.out.below hb); clear hb; obtain ⟨r0, r1, r2, r3, r4, f0, f1, f2, f3, f4⟩ := XR.out.c5)
    have XF := cells_set5 XR.out (.slice none 0 0) (.slice none 0 0) (.int .i64 0) (.int .i64 0) (.int .i64 1)
    obtain ⟨q0, q1, q2, q3, q4, -⟩ := XF.c5
    refine bodyPost_ret (v := .agg #[.slice none 0 0, .slice none 0 0, .int .i64 0, .int .i64 0, .int .i64 1]) (by simp [results, Try.results28, go_sem, q0, q1, q2, q3, q4]) rfl ?_
    rw [hno.1, hno.2.1, hno.2.2]
    exact givesSO_no 1 (D.out.within (within_set5 w1 _ _ _ _ _ _) (by omega))
  · cases hsB : setB lb sb
    · have hno := synC_form (la := la) (sa := sa) (lb := lb) (sb := sb) (by rw [hsB]; simp)
      obtain ⟨b0, b1, _⟩ := XB.out.c2
      have tok : True := trivial
      go_wp2_with (first | (clear tok; go_at_call 22; refine (impl_setRight am as_ c1 c2 la sa _ hla hsa hda hwa (R2.out _ D.out).1 (R2.out _ D.out).2.2.1).mono ?_; rintro e w1 ⟨rfl, hb⟩; rw [hsA]; replace XR := Lib.hid (XR.out.below hb); replace XB := Lib.hid (XB.out.below hb); replace D := Lib.hid (D.out.below hb); clear hb b0 b1; obtain ⟨b0, b1, _⟩ := XB.out.c2) | (go_at_call 22; refine (impl_setRight bm bs_ c3 c4 lb sb _ hlb hsb hdb hwb (R2.out _ D.out).2.1 (R2.out _ D.out).2.2.2).mono ?_; rintro e w1 ⟨rfl, hb⟩; rw [hsB]; replace XR := Lib.hid (XR.out.below hb); replace D := Lib.hid (D.out.below hb); clear hb; obtain ⟨r0, r1, r2, r3, r4, f0, f1, f2, f3, f4⟩ := XR.out.c5))
      have XF := cells_set5 XR.out (.slice none 0 0) (.slice none 0 0) (.int .i64 0) (.int .i64 0) (.int .i64 1)
      obtain ⟨q0, q1, q2, q3, q4, -⟩ := XF.c5
      refine bodyPost_ret (v := .agg #[.slice none 0 0, .slice none 0 0, .int .i64 0, .int .i64 0, .int .i64 1]) (by simp [results, Try.results28, go_sem, q0, q1, q2, q3, q4]) rfl ?_
      rw [hno.1, hno.2.1, hno.2.2]
      exact givesSO_no 1 (D.out.within (within_set5 w1 _ _ _ _ _ _) (by omega))
    · obtain ⟨b0, b1, _⟩ := XB.out.c2
      have hL8 := setB_len hsA
      have hR8 := setB_len hsB
      have hmono := Lib.hid (Inc.mono (of_decide_eq_true hsB : SetOk lb sb).2.2.2)
      have tok : True := trivial
      go_upto_region 3 with (first | (clear tok; go_at_call 22; refine (impl_setRight am as_ c1 c2 la sa _ hla hsa hda hwa (R2.out _ D.out).1 (R2.out _ D.out).2.2.1).mono ?_; rintro e w1 ⟨rfl, hb⟩; rw [hsA]; replace XR := Lib.hid (XR.out.below hb); replace XB := Lib.hid (XB.out.below hb); replace XA := Lib.hid (XA.out.below hb); replace D := Lib.hid (D.out.below hb); have hzA := hb.size; clear hb b0 b1 a0 a1; obtain ⟨b0, b1, _⟩ := XB.out.c2) | (go_at_call 22; refine (impl_setRight bm bs_ c3 c4 lb sb _ hlb hsb hdb hwb (R2.out _ D.out).2.1 (R2.out _ D.out).2.2.2).mono ?_; rintro e w2 ⟨rfl, hb⟩; rw [hsB]; replace XR := Lib.hid (XR.out.below hb); replace XB := Lib.hid (XB.out.below hb); replace XA := Lib.hid (XA.out.below hb); have hzB := hb.size; clear b0 b1; replace D := Lib.hid (D.out.below hb); clear hb; obtain ⟨r0, r1, r2, r3, r4, f0, f1, f2, f3, f4⟩ := XR.out.c5))
      obtain ⟨a0, a1, _⟩ := XA.out.c2
      obtain ⟨b0, b1, _⟩ := XB.out.c2
      have tok : True := trivial
      obtain ⟨n8, hn8⟩ : ∃ n8, (synL la sa lb sb).length = n8 := ⟨_, rfl⟩
      have HN8 := Lib.hid hn8
      go_upto_region 4 with (first | (clear tok; go_at_call 72; refine (merged_ _ _ _ _ _ _ _ _ _ _ _ _ _).mono ?_; rintro e w3 ⟨rfl, hca, hcb, hb⟩; have YA := Lib.hid hca; have YB := Lib.hid hcb; replace XR := Lib.hid (XR.out.below hb); replace XB := Lib.hid (XB.out.below hb); replace XA := Lib.hid (XA.out.below hb); replace D := Lib.hid (D.out.below hb); have hzC := hb.size; clear hb hca hcb a0 a1 b0 b1) | (go_at_call 42; refine (callsIn_wide.1 (collected_in 10 95 _ (mrg sa sb lb ++ uns sb la) (sa.length + sb.length) _ (by omega) (by omega) (enters_of Try.func95 (by kernel_rfl) rfl) (fun W0 hW0 => merged1_T 9 _ _ am bm as_ bs_ c1 c2 c3 c4 la lb sa sb (by omega) (by omega) (by omega) hla hlb hwa hwb hmono.out _ W0 YA.out YB.out (R2.out _ D.out).1 (R2.out _ D.out).2.1 (R2.out _ D.out).2.2.1 (R2.out _ D.out).2.2.2 hW0))).mono ?_; rintro e w4 ⟨qa, qc, rfl, hh, hso, hb⟩; rw [show (collect (mrg sa sb lb ++ uns sb la)).length = n8 from HN8.out]; have SO := Lib.hid hso; have HH := Lib.hid hh; replace XR := Lib.hid (XR.out.below hb); replace XB := Lib.hid (XB.out.below hb); replace XA := Lib.hid (XA.out.below hb); replace D := Lib.hid (D.out.below hb); have hzD := hb.size; clear hb hso hh))
      have XT := Lib.hid (Cells.new w4 #[.slice qa n8 qc, .func (.func 93) #[] #[]] 69)
      have hb5 := step_alloc w4 (.cells #[.slice qa n8 qc, .func (.func 93) #[] #[]] 69)
      have hz4 := World.size_alloc w4 (.cells #[.slice qa n8 qc, .func (.func 93) #[] #[]] 69)
      obtain ⟨T, hT⟩ : ∃ T, w4.heap.size = T := ⟨_, rfl⟩
      simp only [List.toList_toArray] at XT
      generalize w4.alloc (.cells #[.slice qa n8 qc, .func (.func 93) #[] #[]] 69) = w5 at XT hb5 hz4 ⊢
      replace XA := Lib.hid (XA.out.below hb5)
      replace XB := Lib.hid (XB.out.below hb5)
      replace XR := Lib.hid (XR.out.below hb5)
      replace SO := Lib.hid (show SOwnIn w5 w3.heap.size w4.heap.size qa (synL la sa lb sb) from ROwnIn.same SO.out (Same.of_below hb5 (by omega)))
      replace D := Lib.hid (D.out.below hb5)
      rw [hT] at XT SO hz4 ⊢
      have TL := Lib.hid (show w.heap.size + 3 ≤ T ∧ w3.heap.size ≤ T ∧ w.heap.size + 3 ≤ w3.heap.size ∧ w5.heap.size = T + 1 by omega)
      clear hb5 hT
      obtain ⟨t0, t1, _⟩ := XT.out.c2
      by_cases h8 : n8 ≤ 8
      · have hok := synC_ok (la := la) (sa := sa) (lb := lb) (sb := sb) ⟨hsA, hsB⟩ (by rw [hn8]; exact h8)
        have h8' : decide ((8 : Int) < (n8 : Int)) = false := decide_eq_false (by omega)
        clear hn8
        go_upto_region 6 with fail
        refine wp_region_held_drew (S := fun w' => w'.cell? ⟨w.heap.size, 0, none⟩ = some (.slice am la.length c1) ∧ w'.cell? ⟨w.heap.size + 1, 0, none⟩ = some (.slice bm lb.length c3) ∧ w'.cell? ⟨T, 0, none⟩ = some (.slice qa n8 qc)) (by kernel_rfl) (by exact ⟨XA.out.c2.1, XB.out.c2.1, XT.out.c2.1⟩) (fun hHeld => ?_)
        refine tk 0 (v := ?_) ?_
        try simp only [Act.put, n1, n2, n3, n4, n5, n6]
        refine tk 1 (v := ?_) ?_
        try simp only [Act.put, n1, n2, n3, n4, n5, n6]
        refine tk 2 (v := ?_) ?_
        try simp only [Act.put, n1, n2, n3, n4, n5, n6]
        refine tk 3 (v := ?_) ?_
        try simp only [Act.put, n1, n2, n3, n4, n5, n6]
        refine tk 5 (v := ?_) ?_
        try simp only [Act.put, n1, n2, n3, n4, n5, n6]
        refine tk 6 (v := ?_) ?_
        try simp only [Act.put, n1, n2, n3, n4, n5, n6]
        refine wpAnyH_ready (rs := [4]) (by kernel_rfl) (by simp) ?_
        refine AllReadyH.cons rfl (fun K hK => ?_) AllReadyH.nil
        go_simp
        have hd : Below w5.heap.size w5 w5.drew := (Below.refl _ _).drew
        replace XA := Lib.hid (XA.out.below hd)
        replace XB := Lib.hid (XB.out.below hd)
        replace XT := Lib.hid (XT.out.below hd)
        replace XR := Lib.hid (XR.out.below hd)
        replace SO := Lib.hid (show SOwnIn w5.drew w3.heap.size T qa _ from ROwnIn.same SO.out (Same.of_below hd (by have := TL.out; omega)))
        replace D := Lib.hid (D.out.below hd)
        replace TL := Lib.hid (show w.heap.size + 3 ≤ T ∧ w3.heap.size ≤ T ∧ w.heap.size + 3 ≤ w3.heap.size ∧ w5.drew.heap.size = T + 1 from TL.out)
        clear hd
        generalize w5.drew = w7 at XA XB XT XR SO D TL ⊢
        refine (impl_seenJoin am bm c1 c3 la lb _ hla hlb (MA.out.mono D.out) (MB.out.mono D.out)).mono ?_
        rintro e w6 ⟨ja, jc, rfl, hjo, hb⟩
        have HJO := Lib.hid hjo
        replace XA := Lib.hid (XA.out.below hb)
        replace XB := Lib.hid (XB.out.below hb)
        replace XT := Lib.hid (XT.out.below hb)
        replace XR := Lib.hid (XR.out.below hb)
        replace SO := Lib.hid (show SOwnIn w6 w3.heap.size T qa _ from ROwnIn.same SO.out (Same.of_below hb (by have := TL.out; omega)))
        replace D := Lib.hid (D.out.below hb)
        have hz5 := hb.size
        clear hb hjo
        go_wp2_with fail
        refine hK.out _ _ (by exact ⟨XA.out.c2.1, XB.out.c2.1, XT.out.c2.1⟩) (fun hHeld => ?_)
        clear hK K
        try simp only [Act.put, n1, n2, n3, n4, n5, n6]
        refine tk 7 (v := ?_) ?_
        try simp only [Act.put, n1, n2, n3, n4, n5, n6]
        refine tk 8 (v := ?_) ?_
        try simp only [Act.put, n1, n2, n3, n4, n5, n6]
        refine wpAnyH_ready (rs := [9]) (by kernel_rfl) (by simp) ?_
        refine AllReadyH.cons rfl (fun K hK => ?_) AllReadyH.nil
        go_simp
        --op
        obtain ⟨r0, r1, r2, r3, r4, f0, f1, f2, f3, f4⟩ := XR.out.c5
        go_simp
        have XF := Lib.hid (cells_set5 XR.out (.slice ja (joinV la lb).length jc) (.slice qa n8 qc) (.int .i64 0) (.int .i64 0) (.int .i64 0))
        have hw := within_set5 w6 (w.heap.size + 1 + 1) (.slice ja (joinV la lb).length jc) (.slice qa n8 qc) (.int .i64 0) (.int .i64 0) (.int .i64 0)
        have HWW := Lib.hid hw
        replace XA := Lib.hid (XA.out.within hw (by omega))
        replace XB := Lib.hid (XB.out.within hw (by omega))
        replace XT := Lib.hid (XT.out.within hw (by have := TL.out; omega))
        clear hw r0 r1 r2 r3 r4 f0 f1 f2 f3 f4
        refine hK.out _ _ (by exact ⟨XA.out.c2.1, XB.out.c2.1, XT.out.c2.1⟩) (fun hHeld => ?_)
        clear hK K
        try simp only [Act.put, n1, n2, n3, n4, n5, n6]
        refine wpAnyH_done (by kernel_rfl) ?_ _

        go_wp2_with fail
        obtain ⟨q0, q1, q2, q3, q4, -⟩ := XF.out.c5
        have SO6 := Lib.hid (ROwnIn.same SO.out (fun b h1 h2 => HWW.out.block b (by have := TL.out; omega) (.inr (by have := TL.out; omega))))
        have JO6 := Lib.hid (OwnIn.same HJO.out (fun b h1 h2 => HWW.out.block b (by omega) (.inr (by have := TL.out; omega))))
        refine bodyPost_ret (v := .agg #[.slice ja (joinV la lb).length jc, .slice qa n8 qc, .int .i64 0, .int .i64 0, .int .i64 0]) (by simp [results, Try.results28, go_sem, q0, q1, q2, q3, q4]) rfl ?_
        rw [hok.1, hok.2.1, hok.2.2]
        have hws := HWW.out.size
        exact ⟨ja, jc, qa, qc, w7.heap.size, w6.heap.size, w3.heap.size, T, by rw [HN8.out], JO6.out, SO6.out, by have := TL.out; omega, by have := TL.out; omega, hws, by have := TL.out; omega, .inr (by have := TL.out; omega), by rw [HN8.out]; exact HN8.out ▸ HH.out, D.out.within HWW.out (by omega)⟩
      · have hno := synC_full (la := la) (sa := sa) (lb := lb) (sb := sb) ⟨hsA, hsB⟩ (by rw [hn8]; exact h8)
        have h8' : decide ((8 : Int) < (n8 : Int)) = true := decide_eq_true (by omega)
        clear hn8
        obtain ⟨r0, r1, r2, r3, r4, f0, f1, f2, f3, f4⟩ := XR.out.c5
        go_wp2_with fail
        have XF := cells_set5 XR.out (.slice none 0 0) (.slice none 0 0) (.int .i64 0) (.int .i64 0) (.int .i64 9)
        obtain ⟨q0, q1, q2, q3, q4, -⟩ := XF.c5
        refine bodyPost_ret (v := .agg #[.slice none 0 0, .slice none 0 0, .int .i64 0, .int .i64 0, .int .i64 9]) (by simp [results, Try.results28, go_sem, q0, q1, q2, q3, q4]) rfl ?_
        rw [hno.1, hno.2.1, hno.2.2]
        exact givesSO_no 9 (D.out.within (within_set5 w5 _ _ _ _ _ _) (by omega))
end Go.Proofs.Ytiphlffcgjdoaaa.Sb
