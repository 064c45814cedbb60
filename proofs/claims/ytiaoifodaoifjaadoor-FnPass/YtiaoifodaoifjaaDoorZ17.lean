/- Parts of a law: SeenDraw2, SeenDraw3, PassDraw. Conditions: on sizes, as each says. -/
import Derived.Test.YtiaoifodaoifjaaDoorZ1
import Derived.Test.YtiaoifodaoifjaaDoorZ14
import Derived.Test.YtiaoifodaoifjaaDoorZ12
import Derived.Test.YtiaoifodaoifjaaDoorZ11
import Derived.Test.YtiaoifodaoifjaaDoorZ13
set_option linter.unusedSimpArgs false
set_option linter.unusedVariables false
namespace Go.Proofs.YtiaoifodaoifjaaDoor.Mk
open Go.RowKit Dr
def DrawnSeen (w : World) (B g : Nat) (e : Ending) (w' : World) : Prop :=
  ∃ (l : List (Int × Int)) (a : Option Addr) (cap : Nat), l.length ≤ 6 ∧ e = .returned (.slice a l.length cap) ∧ OwnIn w' w.heap.size w'.heap.size a l ∧ HasSrc w' B g ∧ Within g (g + 1) w w'
set_option maxRecDepth 100000 in
set_option maxHeartbeats 4000000 in
theorem seen_draw (w : World) (B g : Nat) (h : HasSrc w B g) : Calls Tryd.prog 20 #[.pointer (some ⟨g, 0, none⟩)] w (DrawnSeen w B g) := by
  have hBg := h.lt
  have H := jj (h.below (step_alloc w (.cells #[] 64)))
  have O := jj (World.ownsRow_made (e := 64) (size := 2) w #[] 0 (Nat.le_refl _) (by unfold maxLen; omega) rfl)
  have D := jj ((Within.refl g (g + 1) w).onto (step_alloc w (.cells #[] 64)))
  clear h
  go_enter Tryd.func20, Tryd.ntmps20
  go_wp2_with fail
  refine (n_draw _ B g 5 (by omega) (by omega) H.out).mono ?_
  rintro e w1 ⟨k0, hk0, rfl, hs, hg⟩
  have hw := within_grown hg
  replace H := jj hs
  replace O := jj (own_within O.out hw (by omega))
  replace D := jj (D.out.trans hw)
  clear hs hg hw
  go_wp2
  go_loopw [3, 4] (fun v i wr => ∃ (l : List (Int × Int)) (k : Nat), k ≤ 4 ∧ l.length ≤ 5 ∧ i = .int .i64 k ∧ wr.ownsRow w.heap.size 64 2 v l.length (flat l) ∧ HasSrc wr B g ∧ Within g (g + 1) w wr) (fun _ i _ => (intOf i).toNat)
  case atStart => exact ⟨[], k0, by omega, by simp, rfl, O.out, H.out, D.out⟩
  case round =>
    obtain ⟨l, k, hk4, hl5, rfl, ho, hH, hD⟩ := hrel
    have HO := jj ho
    have HH := jj hH
    have HD := jj hD
    have hz := hD.size
    obtain ⟨qa, cap, rfl, hoi⟩ := own_row ho
    clear ho hH hD hoi
    by_cases hk : 0 < k
    · have hk' : (0 : Int) < (k : Int) := by omega
      go_wp2_with fail
      refine (dot_draw _ B g HH.out).mono ?_
      rintro e w2 ⟨m, hm, rfl, hs2, hw2⟩
      have H2 := jj hs2
      have O2 := jj (own_within HO.out hw2 (by omega))
      have D2 := jj (HD.out.trans hw2)
      have hz2 := hw2.size
      obtain ⟨_, _, hq, hoi⟩ := own_row O2.out
      have M2 := jj (show MarksAt w2 qa l by injection hq with h1; rw [h1]; exact hoi.at_)
      clear hs2 hw2 hq hoi hm
      go_wp2_with fail
      refine (spec_seenPut_row qa cap l m _ (by unfold maxLen; omega) M2.out).mono ?_
      rintro e w3 ⟨v3, rfl, ho3, hb3⟩
      have hz3 := hb3.size
      have O3 := jj (own_below (own_base (B' := w.heap.size) ho3 (by omega)) (step_alloc w3 (.cells #[v3, .int .i64 (putC l m)] 30)))
      have P3 := jj (own_below (own_below O2.out hb3) (step_alloc w3 (.cells #[v3, .int .i64 (putC l m)] 30)))
      have H3 := jj ((H2.out.below hb3).below (step_alloc w3 (.cells #[v3, .int .i64 (putC l m)] 30)))
      have D3 := jj ((D2.out.onto hb3).onto (step_alloc w3 (.cells #[v3, .int .i64 (putC l m)] 30)))
      have L3 := jj (putL_length l m)
      clear M2
      obtain ⟨a3, c3, rfl, _⟩ := own_row ho3
      clear ho3 hb3
      by_cases hc : putC l m = 0
      · have hc2 : (putC l m == 0) = true := by simpa using hc
        clear hc
        generalize putC l m = pc at O3 P3 H3 D3 hc2 ⊢
        go_wp2
        go_roundw
        case rel => exact ⟨putL l m, k - 1, by omega, L3.out, by simp only [Value.int.injEq, true_and]; omega, O3.out, H3.out, D3.out⟩
        case measure => go_light; simp [intOf]; omega
      · have hc2 : (putC l m == 0) = false := by simpa using hc
        clear hc
        generalize putC l m = pc at O3 P3 H3 D3 hc2 ⊢
        go_wp2
        go_roundw
        case rel => exact ⟨l, k - 1, by omega, hl5, by simp only [Value.int.injEq, true_and]; omega, P3.out, H3.out, D3.out⟩
        case measure => go_light; simp [intOf]; omega
    · have hk0 : k = 0 := by omega
      subst hk0
      go_wp2_with fail
      refine (one_draw _ B g 15 (by omega) (by omega) HH.out).mono ?_
      rintro e w2 ⟨r, rfl, hs2, hg2⟩
      have hw2 := within_grown hg2
      have H2 := jj hs2
      have O2 := jj (own_within HO.out hw2 (by omega))
      have D2 := jj (HD.out.trans hw2)
      have hz2 := hw2.size
      clear hs2 hg2 hw2
      cases r
      · go_wp2
        go_ret
        obtain ⟨a5, c5, h5, ho5⟩ := own_row O2.out
        exact ⟨l, a5, c5, by omega, by rw [← h5]; rfl, ho5, H2.out, D2.out⟩
      · go_wp2_with fail
        refine (dot_draw _ B g H2.out).mono ?_
        rintro e w3 ⟨m, hm, rfl, hs3, hw3⟩
        have H3 := jj hs3
        have O3 := jj (own_within O2.out hw3 (by omega))
        have D3 := jj (D2.out.trans hw3)
        have hz3 := hw3.size
        obtain ⟨x, y⟩ := m
        clear hs3 hw3 hm
        go_wp2_with (at_builtin; refine wpList_append_mark _ rfl _ _ rfl w.heap.size _ l (x, y) (by rfl) w3.heap.size (by rfl) (by rfl) O3.out (by omega) (by omega) ?_; intro v' w4 ho4 hb4)
        have O4 := jj ho4
        have H4 := jj (hasSrc_same H3.out (fun q hq hor => hb4.block q (by omega)))
        have D4 := jj (show Within g (g + 1) w w4 from ⟨hb4.os.trans D3.out.os, hb4.tape.trans D3.out.tape, hb4.output.trans D3.out.output, by have := hb4.size; omega, fun q hq hor => (hb4.block q hq).trans (D3.out.block q hq hor)⟩)
        clear ho4 hb4
        go_wp2
        go_ret
        obtain ⟨a5, c5, h5, ho5⟩ := own_row O4.out
        exact ⟨l ++ [(x, y)], a5, c5, by simp; omega, by rw [← h5]; rfl, ho5, H4.out, D4.out⟩
open Go.RowKit Dr
theorem n_one (w : World) (g : Nat) : Calls Tryd.prog 27 #[.pointer (some ⟨g, 0, none⟩), .int .i64 1] w fun e w' => e = .returned (.int .i64 0) ∧ w = w' := by
  go_enter Tryd.func27, Tryd.ntmps27
  go_wp2
  go_ret
  exact ⟨rfl, rfl⟩
theorem n_upto (w : World) (B g n : Nat) (hn : n ≤ 1000000) (h : HasSrc w B g) : Calls Tryd.prog 27 #[.pointer (some ⟨g, 0, none⟩), .int .i64 ((n : Int) + 1)] w (Drawn w B g (n + 1)) := by
  by_cases h0 : n = 0
  · subst h0
    exact (n_one w g).mono fun e w' ⟨he, hw⟩ => ⟨0, by omega, he, hw ▸ h, hw ▸ World.grownBy.refl w _⟩
  · exact n_draw w B g (n + 1) (by omega) (by omega) h
def DrawnText (w : World) (B g most : Nat) (e : Ending) (w' : World) : Prop :=
  ∃ u : ByteArray, u.size ≤ most ∧ e = .returned (.string u) ∧ HasSrc w' B g ∧ Within g (g + 1) w w'
theorem one_byte (w : World) (b : UInt8) : (convert 22 9 (.slice (some ⟨w.heap.size, 0, none⟩) 1 1)).run Tryd.prog (w.alloc (.cells #[.int .u8 (b.toNat : Int)] 5)) = .ok (.string ⟨#[b]⟩) (w.alloc (.cells #[.int .u8 (b.toNat : Int)] 5)) := by
  refine run_convert_bytes_back (P := Tryd.prog) _ 22 9 5 ⟨w.heap.size, 0, none⟩ 1 [b] Tryd.underlying22 Tryd.underlying5 Tryd.underlying9 (fun j hj => ?_)
  have : j = 0 := by simpa using hj
  subst this
  have e : (⟨w.heap.size, 0, none⟩ : Addr).add 0 = ⟨w.heap.size, 0, none⟩ := by unfold Addr.add; split <;> simp_all
  rw [e, World.cell?_alloc_mark]; rfl
theorem size_one (b : UInt8) : (ByteArray.mk #[b]).size = 1 := rfl
set_option maxRecDepth 100000 in
set_option maxHeartbeats 4000000 in
theorem spoil_draw (w : World) (B g : Nat) (t : ByteArray) (ht : t.size ≤ 1000) (h : HasSrc w B g) :
    Calls Tryd.prog 28 #[.pointer (some ⟨g, 0, none⟩), .string t] w (DrawnText w B g 2000) := by
  have hBg := h.lt
  have H := jj h
  have D := jj (Within.refl g (g + 1) w)
  clear h
  go_enter Tryd.func28, Tryd.ntmps28
  go_wp2_with fail
  refine (n_upto _ B g t.size (by omega) H.out).mono ?_
  rintro e w1 ⟨k, hk, rfl, hs, hg⟩
  have hw := within_grown hg
  replace H := jj hs
  replace D := jj (D.out.trans hw)
  clear hs hg hw
  go_wp2_with fail
  refine (n_draw _ B g 17 (by omega) (by omega) H.out).mono ?_
  rintro e w2 ⟨r, hr, rfl, hs, hg⟩
  have hw := within_grown hg
  replace H := jj hs
  replace D := jj (D.out.trans hw)
  clear hs hg hw
  have hcv := one_byte w2
  have HD := jj (fun b : UInt8 => D.out.onto (step_alloc w2 (.cells #[.int .u8 (b.toNat : Int)] 5)))
  have HH := jj (fun b : UInt8 => H.out.below (step_alloc w2 (.cells #[.int .u8 (b.toNat : Int)] 5)))
  have e0 : (0 : Int) ≤ (k : Int) := by omega
  have e1 : (k : Int) ≤ (t.size : Int) := by omega
  by_cases hke : k = t.size
  · have hk2 : ((k : Int) == (t.size : Int)) = true := by simp; omega
    go_wp2_with fail
    refine wp_region_held_drew (S := (fun _ => True)) (by kernel_rfl) (by trivial) (fun hHeld => ?_)
    refine tk 0 (v := ?_) ?_ (hy := by exact Or.inl ⟨by rfl, fun w hSw => by (try dsimp only at hSw); go_simp; first | done | with_reducible rfl | (rw [if_neg (by simp [size_one]; omega)])⟩)
    try walk_nrm
    refine tk 1 (v := ?_) ?_ (hy := by exact Or.inl ⟨by rfl, fun w hSw => by (try dsimp only at hSw); go_simp; first | done | with_reducible rfl | (rw [if_neg (by simp [size_one]; omega)])⟩)
    try walk_nrm
    refine tk 2 (v := ?_) ?_ (hy := by exact Or.inl ⟨by rfl, fun w hSw => by (try dsimp only at hSw); go_simp; first | done | with_reducible rfl | (rw [if_neg (by simp [size_one]; omega)])⟩)
    try walk_nrm
    refine tk 3 (v := ?_) ?_ (hy := by exact Or.inl ⟨by rfl, fun w hSw => by (try dsimp only at hSw); go_simp; first | done | with_reducible rfl | (rw [if_neg (by simp [size_one]; omega)])⟩)
    try walk_nrm
    refine tk 4 (v := ?_) ?_ (hy := by exact Or.inl ⟨by rfl, fun w hSw => by (try dsimp only at hSw); go_simp; first | done | with_reducible rfl | (rw [if_neg (by simp [size_one]; omega)])⟩)
    try walk_nrm
    refine tk 5 (v := ?_) ?_ (hy := by exact Or.inl ⟨by rfl, fun w hSw => by (try dsimp only at hSw); go_simp; first | done | with_reducible rfl | (rw [if_neg (by simp [size_one]; omega)])⟩)
    try walk_nrm
    refine tk 6 (v := ?_) ?_ (hy := by exact Or.inl ⟨by rfl, fun w hSw => by (try dsimp only at hSw); go_simp; first | done | with_reducible rfl | (rw [if_neg (by simp [size_one]; omega)])⟩)
    try walk_nrm
    refine tk 7 (v := ?_) ?_ (hy := by exact Or.inl ⟨by rfl, fun w hSw => by (try dsimp only at hSw); go_simp; first | done | with_reducible rfl | (rw [if_neg (by simp [size_one]; omega)])⟩)
    try walk_nrm
    refine tk 8 (v := ?_) ?_ (hy := by exact Or.inl ⟨by rfl, fun w hSw => by (try dsimp only at hSw); go_simp; first | done | with_reducible rfl | (rw [if_neg (by simp [size_one]; omega)])⟩)
    try walk_nrm
    refine tk 9 (v := ?_) ?_ (hy := by exact Or.inl ⟨by rfl, fun w hSw => by (try dsimp only at hSw); go_simp; first | done | with_reducible rfl | (rw [if_neg (by simp [size_one]; omega)])⟩)
    try walk_nrm
    refine rx ?_
    go_wp2
    go_ret
    exact ⟨_, by simp [size_one]; omega, rfl, (HH.out _).below (step_drew _), (HD.out _).onto (step_drew _)⟩
  · have hk2 : ((k : Int) == (t.size : Int)) = false := by simp; omega
    have hkl : k < t.size := by omega
    have e2 : (k : Int) + 1 ≤ (t.size : Int) := by omega
    have e3 : (0 : Int) ≤ (k : Int) + 1 := by omega
    have e4 : IntKind.i64.wrap ((k : Int) + 1) = (k : Int) + 1 := by rw [IntKind.wrap_i64]; omega
    have e5 : ((k : Int) + 1).toNat = k + 1 := by omega
    go_wp2_with fail
    refine (one_draw _ B g 3 (by omega) (by omega) (HH.out _)).mono ?_
    rintro e w3 ⟨r3, rfl, hs, hg⟩
    have hw := within_grown hg
    have D3 := jj ((HD.out _).trans hw)
    have H3 := jj hs
    clear hs hg hw
    cases r3
    · go_wp2_with fail
      refine (one_draw _ B g 2 (by omega) (by omega) H3.out).mono ?_
      rintro e w4 ⟨r4, rfl, hs, hg⟩
      have hw := within_grown hg
      have D4 := jj (D3.out.trans hw)
      have H4 := jj hs
      clear hs hg hw
      cases r4
      · go_wp2_with fail
        refine wp_region_held_drew (S := (fun _ => True)) (by kernel_rfl) (by trivial) (fun hHeld => ?_)
        refine tk 0 (v := ?_) ?_ (hy := by exact Or.inl ⟨by rfl, fun w hSw => by (try dsimp only at hSw); go_simp; first | done | with_reducible rfl | (rw [if_neg (by simp [size_one]; omega)])⟩)
        try walk_nrm
        refine tk 1 (v := ?_) ?_ (hy := by exact Or.inl ⟨by rfl, fun w hSw => by (try dsimp only at hSw); go_simp; first | done | with_reducible rfl | (rw [if_neg (by simp [size_one]; omega)])⟩)
        try walk_nrm
        refine tk 2 (v := ?_) ?_ (hy := by exact Or.inl ⟨by rfl, fun w hSw => by (try dsimp only at hSw); go_simp; first | done | with_reducible rfl | (rw [if_neg (by simp [size_one]; omega)])⟩)
        try walk_nrm
        refine tk 3 (v := ?_) ?_ (hy := by exact Or.inl ⟨by rfl, fun w hSw => by (try dsimp only at hSw); go_simp; first | done | with_reducible rfl | (rw [if_neg (by simp [size_one]; omega)])⟩)
        try walk_nrm
        refine tk 4 (v := ?_) ?_ (hy := by exact Or.inl ⟨by rfl, fun w hSw => by (try dsimp only at hSw); go_simp; first | done | with_reducible rfl | (rw [if_neg (by simp [size_one]; omega)])⟩)
        try walk_nrm
        refine tk 5 (v := ?_) ?_ (hy := by exact Or.inl ⟨by rfl, fun w hSw => by (try dsimp only at hSw); go_simp; first | done | with_reducible rfl | (rw [if_neg (by simp [size_one]; omega)])⟩)
        try walk_nrm
        refine tk 6 (v := ?_) ?_ (hy := by exact Or.inl ⟨by rfl, fun w hSw => by (try dsimp only at hSw); go_simp; first | done | with_reducible rfl | (rw [if_neg (by simp [size_one]; omega)])⟩)
        try walk_nrm
        refine tk 7 (v := ?_) ?_ (hy := by exact Or.inl ⟨by rfl, fun w hSw => by (try dsimp only at hSw); go_simp; first | done | with_reducible rfl | (rw [if_neg (by simp [size_one]; omega)])⟩)
        try walk_nrm
        refine tk 8 (v := ?_) ?_ (hy := by exact Or.inl ⟨by rfl, fun w hSw => by (try dsimp only at hSw); go_simp; first | done | with_reducible rfl | (rw [if_neg (by simp [size_one]; omega)])⟩)
        try walk_nrm
        refine tk 9 (v := ?_) ?_ (hy := by exact Or.inl ⟨by rfl, fun w hSw => by (try dsimp only at hSw); go_simp; first | done | with_reducible rfl | (rw [if_neg (by simp [size_one]; omega)])⟩)
        try walk_nrm
        refine tk 10 (v := ?_) ?_ (hy := by exact Or.inl ⟨by rfl, fun w hSw => by (try dsimp only at hSw); go_simp; first | done | with_reducible rfl | (rw [if_neg (by simp [size_one]; omega)])⟩)
        try walk_nrm
        refine rx ?_
        go_wp2
        go_ret
        exact ⟨_, by simp [size_one]; omega, rfl, H4.out.below (step_drew _), D4.out.onto (step_drew _)⟩
      · go_wp2_with fail
        refine wp_region_held_drew (S := (fun _ => True)) (by kernel_rfl) (by trivial) (fun hHeld => ?_)
        refine tk 0 (v := ?_) ?_ (hy := by exact Or.inl ⟨by rfl, fun w hSw => by (try dsimp only at hSw); go_simp; first | done | with_reducible rfl | (rw [if_neg (by simp [size_one]; omega)])⟩)
        try walk_nrm
        refine tk 1 (v := ?_) ?_ (hy := by exact Or.inl ⟨by rfl, fun w hSw => by (try dsimp only at hSw); go_simp; first | done | with_reducible rfl | (rw [if_neg (by simp [size_one]; omega)])⟩)
        try walk_nrm
        refine tk 2 (v := ?_) ?_ (hy := by exact Or.inl ⟨by rfl, fun w hSw => by (try dsimp only at hSw); go_simp; first | done | with_reducible rfl | (rw [if_neg (by simp [size_one]; omega)])⟩)
        try walk_nrm
        refine tk 3 (v := ?_) ?_ (hy := by exact Or.inl ⟨by rfl, fun w hSw => by (try dsimp only at hSw); go_simp; first | done | with_reducible rfl | (rw [if_neg (by simp [size_one]; omega)])⟩)
        try walk_nrm
        refine tk 4 (v := ?_) ?_ (hy := by exact Or.inl ⟨by rfl, fun w hSw => by (try dsimp only at hSw); go_simp; first | done | with_reducible rfl | (rw [if_neg (by simp [size_one]; omega)])⟩)
        try walk_nrm
        refine tk 5 (v := ?_) ?_ (hy := by exact Or.inl ⟨by rfl, fun w hSw => by (try dsimp only at hSw); go_simp; first | done | with_reducible rfl | (rw [if_neg (by simp [size_one]; omega)])⟩)
        try walk_nrm
        refine tk 6 (v := ?_) ?_ (hy := by exact Or.inl ⟨by rfl, fun w hSw => by (try dsimp only at hSw); go_simp; first | done | with_reducible rfl | (rw [if_neg (by simp [size_one]; omega)])⟩)
        try walk_nrm
        refine tk 7 (v := ?_) ?_ (hy := by exact Or.inl ⟨by rfl, fun w hSw => by (try dsimp only at hSw); go_simp; first | done | with_reducible rfl | (rw [if_neg (by simp [size_one]; omega)])⟩)
        try walk_nrm
        refine tk 8 (v := ?_) ?_ (hy := by exact Or.inl ⟨by rfl, fun w hSw => by (try dsimp only at hSw); go_simp; first | done | with_reducible rfl | (rw [if_neg (by simp [size_one]; omega)])⟩)
        try walk_nrm
        refine rx ?_
        go_wp2
        go_ret
        exact ⟨_, by simp [size_one]; omega, rfl, H4.out.below (step_drew _), D4.out.onto (step_drew _)⟩
    · go_wp2_with fail
      refine wp_region_held_drew (S := (fun _ => True)) (by kernel_rfl) (by trivial) (fun hHeld => ?_)
      refine tk 0 (v := ?_) ?_ (hy := by exact Or.inl ⟨by rfl, fun w hSw => by (try dsimp only at hSw); go_simp; first | done | with_reducible rfl | (rw [if_neg (by simp [size_one]; omega)])⟩)
      try walk_nrm
      refine tk 1 (v := ?_) ?_ (hy := by exact Or.inl ⟨by rfl, fun w hSw => by (try dsimp only at hSw); go_simp; first | done | with_reducible rfl | (rw [if_neg (by simp [size_one]; omega)])⟩)
      try walk_nrm
      refine tk 2 (v := ?_) ?_ (hy := by exact Or.inl ⟨by rfl, fun w hSw => by (try dsimp only at hSw); go_simp; first | done | with_reducible rfl | (rw [if_neg (by simp [size_one]; omega)])⟩)
      try walk_nrm
      refine tk 3 (v := ?_) ?_ (hy := by exact Or.inl ⟨by rfl, fun w hSw => by (try dsimp only at hSw); go_simp; first | done | with_reducible rfl | (rw [if_neg (by simp [size_one]; omega)])⟩)
      try walk_nrm
      refine tk 4 (v := ?_) ?_ (hy := by exact Or.inl ⟨by rfl, fun w hSw => by (try dsimp only at hSw); go_simp; first | done | with_reducible rfl | (rw [if_neg (by simp [size_one]; omega)])⟩)
      try walk_nrm
      refine tk 5 (v := ?_) ?_ (hy := by exact Or.inl ⟨by rfl, fun w hSw => by (try dsimp only at hSw); go_simp; first | done | with_reducible rfl | (rw [if_neg (by simp [size_one]; omega)])⟩)
      try walk_nrm
      refine tk 6 (v := ?_) ?_ (hy := by exact Or.inl ⟨by rfl, fun w hSw => by (try dsimp only at hSw); go_simp; first | done | with_reducible rfl | (rw [if_neg (by simp [size_one]; omega)])⟩)
      try walk_nrm
      refine tk 7 (v := ?_) ?_ (hy := by exact Or.inl ⟨by rfl, fun w hSw => by (try dsimp only at hSw); go_simp; first | done | with_reducible rfl | (rw [if_neg (by simp [size_one]; omega)])⟩)
      try walk_nrm
      refine tk 8 (v := ?_) ?_ (hy := by exact Or.inl ⟨by rfl, fun w hSw => by (try dsimp only at hSw); go_simp; first | done | with_reducible rfl | (rw [if_neg (by simp [size_one]; omega)])⟩)
      try walk_nrm
      refine tk 9 (v := ?_) ?_ (hy := by exact Or.inl ⟨by rfl, fun w hSw => by (try dsimp only at hSw); go_simp; first | done | with_reducible rfl | (rw [if_neg (by simp [size_one]; omega)])⟩)
      try walk_nrm
      refine rx ?_
      go_wp2
      go_ret
      exact ⟨_, by simp [size_one]; omega, rfl, H3.out.below (step_drew _), D3.out.onto (step_drew _)⟩
end Go.Proofs.YtiaoifodaoifjaaDoor.Mk
namespace Go.Proofs.YtiaoifodaoifjaaDoor.Sb
open Go.RowKit Go.Proofs.YtiaoifodaoifjaaDoor.Mk Dr Go.Proofs.YtiaoifodaoifjaaDoor.Se
def GotPass (w : World) (e : Ending) (w' : World) : Prop :=
  ∃ (k : ByteArray) (l : List (Int × Int)) (a : Option Addr) (cap : Nat), k.size ≤ 4 ∧ l.length ≤ 6 ∧ e = .returned (.tuple #[.string k, .slice a l.length cap]) ∧ MarksAt w' a l ∧ Below w.heap.size w w'
def GotTexts2 (w : World) (e : Ending) (w' : World) : Prop := ∃ k u : ByteArray, k.size ≤ 4 ∧ u.size ≤ 3000 ∧ e = .returned (.tuple #[.string k, .string u]) ∧ Below w.heap.size w w'
theorem seal_size (s : ByteArray) : (sealed s).size ≤ s.size + 4 := by
  unfold sealed
  split
  · exact Nat.zero_le _
  · rw [ByteArray.size_append]; exact Nat.le_refl _
theorem pass_size (k : ByteArray) (l : List (Int × Int)) : (passV k l).size ≤ 1000 := by
  unfold passV
  split
  · rename_i h
    obtain ⟨h1, h2⟩ := passOk_is h
    have h3 := passBody_size h1 h2
    have h4 := seal_size (passBody k l)
    omega
  · exact Nat.zero_le _
theorem text_field (t : ByteArray) (a c : Int) (W : World) : (Instr.field 49 (.agg #[.string t, .int .i64 a, .int .i64 c]) 0).run Tryd.prog W = .ok (.string t) W := by kernel_rfl
theorem cut_le (t : ByteArray) (k : Nat) : (t.extract 0 k).size ≤ t.size := by rw [ByteArray.size_extract]; omega
set_option maxRecDepth 100000 in
theorem drawPassOf (w : World) (a : Option Addr) (len cap : Nat) (h : Mk.Code w a len) : Calls Tryd.prog 5 #[.slice a len cap] w (GotPass w) := by
  have H0 := jj (source_new w a len cap h.1 h.2)
  clear h
  go_enter Tryd.func5, Tryd.ntmps5
  go_wp2_with fail
  refine H0.out.mono ?_
  rintro e w1 ⟨rfl, hs1, hb1⟩
  have S1 := jj hs1
  have B1 := jj hb1
  clear hs1 hb1 H0
  go_wp2_with fail
  refine (key_draw w1 w.heap.size w.heap.size S1.out).mono ?_
  rintro e w2 ⟨k, hk, rfl, hs2, hw2⟩
  have S2 := jj hs2
  have B2 := jj (bw B1.out hw2 (Nat.le_refl _))
  clear hs2 hw2
  go_wp2_with fail
  refine (seen_draw w2 w.heap.size w.heap.size S2.out).mono ?_
  rintro e w3 ⟨l, qa, cap2, hl, rfl, ho, hs3, hw3⟩
  have O3 := jj ho
  have B3 := jj (bw B2.out hw3 (Nat.le_refl _))
  clear ho hs3 hw3
  go_wp2
  go_ret2
  exact ⟨k, l, qa, cap2, hk, hl, rfl, O3.out.at_, B3.out⟩
set_option maxRecDepth 100000 in
set_option maxHeartbeats 4000000 in
theorem drawPassRead (w : World) (a : Option Addr) (len cap : Nat) (h : Mk.Code w a len) : Calls Tryd.prog 7 #[.slice a len cap] w (GotTexts2 w) := by
  have H0 := jj (source_new w a len cap h.1 h.2)
  clear h
  go_enter Tryd.func7, Tryd.ntmps7
  go_wp2_with fail
  refine H0.out.mono ?_
  rintro e w1 ⟨rfl, hs1, hb1⟩
  have S1 := jj hs1
  have B1 := jj hb1
  clear hs1 hb1 H0
  go_wp2_with fail
  refine (key_draw w1 w.heap.size w.heap.size S1.out).mono ?_
  rintro e w2 ⟨k, hk, rfl, hs2, hw2⟩
  have S2 := jj hs2
  have B2 := jj (bw B1.out hw2 (Nat.le_refl _))
  clear hs2 hw2
  go_wp2_with fail
  refine (seen_draw w2 w.heap.size w.heap.size S2.out).mono ?_
  rintro e w2b ⟨l, qa, cap2, hl, rfl, ho, hs3, hw3⟩
  have O3 := jj ho.at_
  have S3 := jj hs3
  have B3 := jj (bw B2.out hw3 (Nat.le_refl _))
  clear ho hs3 hw3
  go_wp2_with fail
  refine (spec_passOf k qa cap2 l w2b (by unfold maxLen; omega) (by unfold maxLen; omega) O3.out).mono ?_
  rintro e w3 ⟨rfl, hb3⟩
  have S3b := jj (S3.out.below hb3)
  have B3b := jj (Base.below B3.out hb3)
  have hsz := pass_size k l
  clear hb3 O3
  generalize passV k l = t at hsz
  go_wp2_with fail
  refine (n_draw w3 w.heap.size w.heap.size 6 (by omega) (by omega) S3b.out).mono ?_
  rintro e w4 ⟨r, hr, rfl, hs, hg⟩
  have hw4 := within_grown hg
  have S4 := jj hs
  have B4 := jj (bw B3b.out hw4 (Nat.le_refl _))
  clear hs hg hw4
  by_cases h0 : r = 0
  · subst h0
    go_wp2_with fail
    refine (spoil_draw w4 w.heap.size w.heap.size t hsz S4.out).mono ?_
    rintro e w5 ⟨u, hu, rfl, hs, hw5⟩
    have B5 := jj (bw B4.out hw5 (Nat.le_refl _))
    clear hs hw5
    go_wp2
    go_ret2
    exact ⟨k, u, hk, by omega, rfl, B5.out⟩
  by_cases h1 : r = 1
  · subst h1
    have e4 : IntKind.i64.wrap ((t.size : Int) + 1) = (t.size : Int) + 1 := by rw [IntKind.wrap_i64]; omega
    go_wp2_with fail
    refine (n_upto w4 w.heap.size w.heap.size t.size (by omega) S4.out).mono ?_
    rintro e w5 ⟨q, hq, rfl, hs, hg⟩
    have hw5 := within_grown hg
    have B5 := jj (bw B4.out hw5 (Nat.le_refl _))
    have e0 : (0 : Int) ≤ (q : Int) := by omega
    have e1 : (q : Int) ≤ (t.size : Int) := by omega
    clear hs hg hw5
    go_wp2
    go_ret2
    exact ⟨k, t.extract 0 q, hk, Nat.le_trans (cut_le t q) (by omega), rfl, B5.out⟩
  by_cases h2 : r = 2
  · subst h2
    go_wp2_with fail
    refine (spec_Unseal t (by unfold maxLen; omega) w4).mono ?_
    rintro e w5 ⟨rfl, hb5⟩
    have S5 := jj (S4.out.below hb5)
    have B5 := jj (Base.below B4.out hb5)
    clear hb5
    have hus : (unT t).size ≤ 1000 := by
      unfold unT
      split
      · rw [ByteArray.size_extract]; omega
      · exact Nat.zero_le _
    rw [un_is]
    unfold out
    generalize unT t = u0 at hus
    have hfd := fun W => text_field u0 0 (unC t) W
    go_wp2_with fail
    refine (spoil_draw w5 w.heap.size w.heap.size u0 hus S5.out).mono ?_
    rintro e w6 ⟨u, hu, rfl, hs, hw6⟩
    have B6 := jj (bw B5.out hw6 (Nat.le_refl _))
    clear hs hw6
    go_wp2_with fail
    refine (spec_Seal u (by unfold maxLen; omega) w6).mono ?_
    rintro e w7 ⟨rfl, hb7⟩
    have B7 := jj (Base.below B6.out hb7)
    have hz := seal_size u
    clear hb7
    generalize sealed u = v at hz
    go_wp2
    go_ret2
    exact ⟨k, v, hk, by omega, rfl, B7.out⟩
  by_cases h3 : r = 3
  · subst h3
    go_wp2_with fail
    refine (key_draw w4 w.heap.size w.heap.size S4.out).mono ?_
    rintro e w5 ⟨k2, hk2, rfl, hs, hw5⟩
    have B5 := jj (bw B4.out hw5 (Nat.le_refl _))
    clear hs hw5
    go_wp2
    go_ret2
    exact ⟨k2, t, hk2, by omega, rfl, B5.out⟩
  by_cases h4 : r = 4
  · subst h4
    go_wp2
    go_ret2
    exact ⟨k, ⟨#[]⟩, hk, Nat.zero_le _, rfl, B4.out⟩
  have e0 : ((r : Int) == 0) = false := by simp; omega
  have e1 : ((r : Int) == 1) = false := by simp; omega
  have e2 : ((r : Int) == 2) = false := by simp; omega
  have e3 : ((r : Int) == 3) = false := by simp; omega
  have e4 : ((r : Int) == 4) = false := by simp; omega
  go_wp2
  go_ret2
  exact ⟨k, t, hk, by omega, rfl, B4.out⟩
end Go.Proofs.YtiaoifodaoifjaaDoor.Sb
