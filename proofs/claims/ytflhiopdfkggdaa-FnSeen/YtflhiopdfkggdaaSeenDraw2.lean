/- Draws of version vectors and of what the law of version vectors takes. What is drawn is not told, only its range. Condition: the code has at most 1048576 bytes. -/
import Derived.Test.YtflhiopdfkggdaaSeenDraw
import Derived.Test.YtflhiopdfkggdaaSeenRow
set_option linter.unusedSimpArgs false
set_option linter.unusedVariables false
namespace Go.Proofs.Ytflhiopdfkggdaa.Mk
open Go.RowKit Dr

/-- what a drawn slice of marks leaves -/
def DrawnSeen (w : World) (B g : Nat) (e : Ending) (w' : World) : Prop :=
  ∃ (l : List (Int × Int)) (a : Option Addr) (cap : Nat), l.length ≤ 6 ∧ e = .returned (.slice a l.length cap) ∧ OwnIn w' w.heap.size w'.heap.size a l ∧ HasSrc w' B g ∧ Within g (g + 1) w w'

set_option maxRecDepth 100000 in
set_option maxHeartbeats 4000000 in
theorem seen_draw (w : World) (B g : Nat) (h : HasSrc w B g) : Calls Try.prog 80 #[.pointer (some ⟨g, 0, none⟩)] w (DrawnSeen w B g) := by
  have hBg := h.lt
  have H := Lib.hid (h.below (step_alloc w (.cells #[] 28)))
  have O := Lib.hid (World.ownsRow_made (e := 28) (size := 2) w #[] 0 (Nat.le_refl _) (by unfold maxLen; omega) rfl)
  have D := Lib.hid ((Within.refl g (g + 1) w).onto (step_alloc w (.cells #[] 28)))
  clear h
  go_enter Try.func80, Try.ntmps80
  go_wp2_with fail
  refine (n_draw _ B g 5 (by omega) (by omega) H.out).mono ?_
  rintro e w1 ⟨k0, hk0, rfl, hs, hg⟩
  have hw := within_grown hg
  replace H := Lib.hid hs
  replace O := Lib.hid (own_within O.out hw (by omega))
  replace D := Lib.hid (D.out.trans hw)
  clear hs hg hw
  go_wp2
  go_loopw [3, 4] (fun v i wr => ∃ (l : List (Int × Int)) (k : Nat), k ≤ 4 ∧ l.length ≤ 5 ∧ i = .int .i64 k ∧ wr.ownsRow w.heap.size 28 2 v l.length (flat l) ∧ HasSrc wr B g ∧ Within g (g + 1) w wr) (fun _ i _ => (intOf i).toNat)
  case atStart => exact ⟨[], k0, by omega, by simp, rfl, O.out, H.out, D.out⟩
  case round =>
    obtain ⟨l, k, hk4, hl5, rfl, ho, hH, hD⟩ := hrel
    have HO := Lib.hid ho
    have HH := Lib.hid hH
    have HD := Lib.hid hD
    have hz := hD.size
    obtain ⟨qa, cap, rfl, hoi⟩ := own_row ho
    clear ho hH hD hoi
    by_cases hk : 0 < k
    · have hk' : (0 : Int) < (k : Int) := by omega
      go_wp2_with fail
      refine (dot_draw _ B g HH.out).mono ?_
      rintro e w2 ⟨m, hm, rfl, hs2, hw2⟩
      have H2 := Lib.hid hs2
      have O2 := Lib.hid (own_within HO.out hw2 (by omega))
      have D2 := Lib.hid (HD.out.trans hw2)
      have hz2 := hw2.size
      obtain ⟨_, _, hq, hoi⟩ := own_row O2.out
      have M2 := Lib.hid (show MarksAt w2 qa l by injection hq with h1; rw [h1]; exact hoi.at_)
      clear hs2 hw2 hq hoi hm
      go_wp2_with fail
      refine (spec_seenPut_row qa cap l m _ (by unfold maxLen; omega) M2.out).mono ?_
      rintro e w3 ⟨v3, rfl, ho3, hb3⟩
      have hz3 := hb3.size
      have O3 := Lib.hid (own_below (own_base (B' := w.heap.size) ho3 (by omega)) (step_alloc w3 (.cells #[v3, .int .i64 (putC l m)] 32)))
      have P3 := Lib.hid (own_below (own_below O2.out hb3) (step_alloc w3 (.cells #[v3, .int .i64 (putC l m)] 32)))
      have H3 := Lib.hid ((H2.out.below hb3).below (step_alloc w3 (.cells #[v3, .int .i64 (putC l m)] 32)))
      have D3 := Lib.hid ((D2.out.onto hb3).onto (step_alloc w3 (.cells #[v3, .int .i64 (putC l m)] 32)))
      have L3 := Lib.hid (putL_length l m)
      clear M2
      obtain ⟨a3, c3, rfl, _⟩ := own_row ho3
      clear ho3 hb3
      by_cases hc : putC l m = 0
      · have hc2 : (putC l m == 0) = true := by simpa using hc
        clear hc
        generalize putC l m = pc at O3 P3 H3 D3 hc2 ⊢
        go_wp2
        go_roundw
        case rel => exact ⟨putL l m, k - 1, by omega, L3.out, by simp only [Value.int.injEq, true_and]; omega, O3.out, H3.out, D3.out⟩
        case measure => go_light; simp [intOf]; omega
      · have hc2 : (putC l m == 0) = false := by simpa using hc
        clear hc
        generalize putC l m = pc at O3 P3 H3 D3 hc2 ⊢
        go_wp2
        go_roundw
        case rel => exact ⟨l, k - 1, by omega, hl5, by simp only [Value.int.injEq, true_and]; omega, P3.out, H3.out, D3.out⟩
        case measure => go_light; simp [intOf]; omega
    · have hk0 : k = 0 := by omega
      subst hk0
      go_wp2_with fail
      refine (one_draw _ B g 15 (by omega) (by omega) HH.out).mono ?_
      rintro e w2 ⟨r, rfl, hs2, hg2⟩
      have hw2 := within_grown hg2
      have H2 := Lib.hid hs2
      have O2 := Lib.hid (own_within HO.out hw2 (by omega))
      have D2 := Lib.hid (HD.out.trans hw2)
      have hz2 := hw2.size
      clear hs2 hg2 hw2
      cases r
      · go_wp2
        go_ret
        obtain ⟨a5, c5, h5, ho5⟩ := own_row O2.out
        exact ⟨l, a5, c5, by omega, by rw [← h5]; rfl, ho5, H2.out, D2.out⟩
      · go_wp2_with fail
        refine (dot_draw _ B g H2.out).mono ?_
        rintro e w3 ⟨m, hm, rfl, hs3, hw3⟩
        have H3 := Lib.hid hs3
        have O3 := Lib.hid (own_within O2.out hw3 (by omega))
        have D3 := Lib.hid (D2.out.trans hw3)
        have hz3 := hw3.size
        obtain ⟨x, y⟩ := m
        clear hs3 hw3 hm
        go_wp2_with (at_builtin; refine wpList_append_mark _ rfl _ _ rfl w.heap.size _ l (x, y) (by rfl) w3.heap.size (by rfl) (by rfl) O3.out (by omega) (by omega) ?_; intro v' w4 ho4 hb4)
        have O4 := Lib.hid ho4
        have H4 := Lib.hid (hasSrc_same H3.out (fun q hq hor => hb4.block q (by omega)))
        have D4 := Lib.hid (show Within g (g + 1) w w4 from ⟨hb4.os.trans D3.out.os, hb4.tape.trans D3.out.tape, hb4.output.trans D3.out.output, by have := hb4.size; omega, fun q hq hor => (hb4.block q hq).trans (D3.out.block q hq hor)⟩)
        clear ho4 hb4
        go_wp2
        go_ret
        obtain ⟨a5, c5, h5, ho5⟩ := own_row O4.out
        exact ⟨l ++ [(x, y)], a5, c5, by simp; omega, by rw [← h5]; rfl, ho5, H4.out, D4.out⟩
end Go.Proofs.Ytflhiopdfkggdaa.Mk
