/- Contracts of impl.removeOld, impl.inOrder, impl.SeenJoin and impl.SeenLess. Condition: at most 400 marks. -/
import Derived.Test.YtgbcogncnhbmeaaJoinMath
import Derived.Test.YtgbcogncnhbmeaaSeenMap
set_option linter.unusedSimpArgs false
set_option linter.unusedVariables false
namespace Go.Proofs.Ytgbcogncnhbmeaa.Mk
open Go.RowKit

theorem fold_take {β : Type} (g : β → Int × Int → β) (f : β) (l : List (Int × Int)) (k : Nat) (h : k < l.length) : (l.take (k + 1)).foldl g f = g ((l.take k).foldl g f) l[k] := by
  rw [List.take_succ_eq_append_getElem h, List.foldl_append]; rfl
theorem Within.alloc {lo hi : Nat} {a w : World} (h : Within lo hi a w) (o : Obj) : Within lo hi a (w.alloc o) :=
  h.trans ⟨rfl, rfl, rfl, by simp, fun k hk _ => Below.heap_alloc _ _ _ hk⟩
/-- what removeOld leaves -/
def RemovedE (w : World) (b n : Nat) (f : Int → Option (Int × Int)) (m : Int × Int) (e : Ending) (w' : World) : Prop :=
  e = .returned (.tuple #[]) ∧ MapOf w' b n (rm f m) ∧ Within b (b + 1) w w'

set_option maxRecDepth 100000 in
theorem removeOld (b n : Nat) (f : Int → Option (Int × Int)) (m : Int × Int) (w : World) (hw : (Lit.int .i64 m.1).wf = true) (h : MapOf w b n f) :
    Calls Try.prog 96 #[.map (some b), mv m] w (RemovedE w b n f m) := by
  have hlt := h.lt
  have hlook := (h.alloc (.cells #[.int .i64 m.1, .int .i64 m.2] 30)).look hw
  obtain ⟨w2, hdel, hm2, hw2⟩ := (h.alloc (.cells #[.int .i64 m.1, .int .i64 m.2] 30)).drop m.1 hw 0
  have HM := Lib.hid h
  have HM2 := Lib.hid hm2
  have HW2 := Lib.hid (((Within.refl b (b + 1) w).alloc (.cells #[.int .i64 m.1, .int .i64 m.2] 30)).trans hw2)
  have HL : Hid (rm f m = if (at_ f m.1).2 ≤ m.2 then del f m.1 else f) := Lib.hid rfl
  clear h hm2 hw2 hw
  generalize at_ f m.1 = q at hlook HL
  obtain ⟨x, y⟩ := m
  obtain ⟨q0, q1⟩ := q
  unfold mv at hlook ⊢
  simp only at hlook hdel HL HM2 HW2
  have hf := field1 q0 q1
  by_cases hle : q1 ≤ y
  · have HE := Lib.hid (HL.out.trans (if_pos hle))
    go_enter Try.func96, Try.ntmps96
    go_wp2
    refine bodyPost_end (v := .tuple #[]) (by simp [results, Try.results96, go_sem]) rfl ⟨rfl, ?_, HW2.out⟩
    rw [HE.out]; exact HM2.out
  · have HE := Lib.hid (HL.out.trans (if_neg hle))
    go_enter Try.func96, Try.ntmps96
    go_wp2
    refine bodyPost_end (v := .tuple #[]) (by simp [results, Try.results96, go_sem]) rfl ⟨rfl, ?_, (Within.refl _ _ _).alloc _⟩
    rw [HE.out]; exact HM.out.alloc _

theorem run_make_cap (s : Nat) (hs : s ≤ 1048576) (w : World) :
    (Instr.makeSlice 23 (.int .i64 0) (.int .i64 (s : Int))).run Try.prog w = .ok (.slice (some ⟨w.heap.size, 0, none⟩) 0 s) (w.alloc (.cells (madeCells #[.int .i64 0, .int .i64 0] (s * 2)) 30)) := by
  obtain ⟨i0, hi, hz0, hz1, hz2⟩ := info_parts infoM
  have := run_make (P := Try.prog) w 23 30 i0 _ Try.underlying23 hi hz0 .i64 .i64 0 s (by omega) (by omega) (by rw [hz2]; omega) (by omega)
  rw [hz1] at this
  simpa [Value.cells] using this

set_option maxRecDepth 100000 in
set_option maxHeartbeats 1000000 in
theorem inOrder (b n : Nat) (f : Int → Option (Int × Int)) (w : World) (hn : n ≤ 100) (hf : Neat f) (h : MapOf w b n f) :
    Calls Try.prog 97 #[.map (some b)] w (Gives w (ordTo f 5)) := by
  have H := Lib.hid h
  have HF := Lib.hid hf
  have hlt := h.lt
  obtain ⟨s, hs, hlen, _⟩ := h.len 3
  have hmk := run_make_cap s (by omega)
  clear h hf
  go_enter Try.func97, Try.ntmps97
  go_wp2
  clear hmk hlen
  go_loopw [3, 4] (fun v i wr => ∃ (k : Nat), k ≤ 5 ∧ i = .int .i64 ((k : Int) + 1) ∧ wr.ownsRow w.heap.size 30 2 v (ordTo f k).length (flat (ordTo f k)) ∧ Below w.heap.size w wr) (fun _ i _ => 6 - (intOf i).toNat)
  case atStart => exact ⟨0, by omega, rfl, World.ownsRow_made w _ s (Nat.le_refl _) (by unfold maxLen; omega) (by rw [size_madeCells]), (Below.refl _ _).alloc (Nat.le_refl _) _⟩
  case round =>
    obtain ⟨k, hk, rfl, ho, hbel⟩ := hrel
    have HO := Lib.hid ho
    have HB := Lib.hid hbel
    clear ho hbel
    by_cases hlt5 : k < 5
    · have hlook := (H.out.below HB.out).look (k := (k : Int) + 1) (wf_small (by omega) (by omega))
      have HS := Lib.hid (ordTo_succ f k)
      have HP : Hid (pick f ((k : Int) + 1) = if at_ f ((k : Int) + 1) = (0, 0) then none else some (at_ f ((k : Int) + 1))) := Lib.hid rfl
      have HL : Hid ((ordTo f k).length ≤ 5) := Lib.hid (Nat.le_trans (List.length_filterMap_le _ _) (by simp; omega))
      have hc : (at_ f ((k : Int) + 1)) = (0, 0) ∨ ∃ y, 1 ≤ y ∧ at_ f ((k : Int) + 1) = ((k : Int) + 1, y) := by
        rcases HF.out ((k : Int) + 1) with h | ⟨y, hy, h⟩
        · left; unfold at_; rw [h]; rfl
        · right; exact ⟨y, hy, at_some h⟩
      rcases hc with hc | ⟨y, hy, hc⟩
      · rw [hc] at hlook HP
        clear hc
        unfold mv at hlook
        simp only at hlook
        have HE := Lib.hid (HP.out.trans (if_pos rfl))
        go_wp2_with fail
        go_roundw
        case rel => exact ⟨k + 1, by omega, by go_num, by rw [HS.out, HE.out]; simpa using HO.out.alloc _, HB.out.alloc HB.out.size _⟩
        case measure => go_light; simp [intOf]; omega
      · rw [hc] at hlook HP
        clear hc
        unfold mv at hlook
        simp only at hlook
        have HE := Lib.hid (HP.out.trans (if_neg (by intro e; injection e; omega)))
        have hx0 : ((k : Int) + 1 == 0) = false := by simp; omega
        go_wp2_with (at_builtin; refine wpList_append_mark _ rfl _ _ rfl w.heap.size _ (ordTo f k) ((k : Int) + 1, y) rfl (wr.heap.size + 1) (by simp) rfl (HO.out.alloc _) (by have := HL.out; omega) (by have := HB.out.size; simp; omega) ?_; intro v' w1 ho1 hb1)
        have HO1 := Lib.hid ho1
        have HB1 := Lib.hid ((HB.out.alloc HB.out.size _).trans hb1)
        clear ho1 hb1
        go_wp2
        go_roundw
        case rel => exact ⟨k + 1, by omega, by go_num, by rw [HS.out, HE.out]; exact HO1.out, HB1.out⟩
        case measure => go_light; simp [intOf]; omega
    · have hk5 : k = 5 := by omega
      subst hk5
      go_wp2
      go_ret
      obtain ⟨a, cap, rfl, ho⟩ := own_row HO.out
      exact ⟨a, cap, rfl, ho, HB.out⟩

theorem joinV_no {a b : List (Int × Int)} (h : ¬ (rightB a = true ∧ rightB b = true)) : joinV a b = [] := if_neg h
theorem joinV_right {a b : List (Int × Int)} (ha : rightB a = true) (hb : rightB b = true) : joinV a b = ordTo (b.foldl jn (mapL a)) 5 := by rw [join_eq ha hb]; exact if_pos ⟨ha, hb⟩
theorem neat_fold {b : List (Int × Int)} (hb : rightB b = true) {f : Int → Option (Int × Int)} (hf : Neat f) : ∀ k, Neat ((b.take k).foldl jn f) := by
  intro k
  have : ∀ (l : List (Int × Int)), (∀ m ∈ l, dotB m = true) → ∀ f, Neat f → Neat (l.foldl jn f) := by
    intro l
    induction l with
    | nil => intro _ f hf; exact hf
    | cons x r ih =>
      intro h f hf
      exact ih (fun m hm => h m (by simp [hm])) _ (neat_jn hf x ((dotB_iff x).1 (h x (by simp))).2.2.1)
  exact this _ (fun m hm => right_dot hb m (List.mem_of_mem_take hm)) f hf
theorem gives_nil (w w' : World) (hb : Below w.heap.size w w') : Gives w [] (.returned (.slice none 0 0)) w' := ⟨none, 0, rfl, .inl rfl, hb⟩

set_option maxRecDepth 100000 in
set_option maxHeartbeats 2000000 in
theorem impl_seenJoin (a b : Option Addr) (cap cap' : Nat) (l l' : List (Int × Int)) (w : World) (hl : l.length ≤ maxLen) (hl' : l'.length ≤ maxLen) (h : MarksAt w a l) (h' : MarksAt w b l') :
    Calls Try.prog 53 #[.slice a l.length cap, .slice b l'.length cap'] w (Gives w (joinV l l')) := by
  have H := Lib.hid h
  have H' := Lib.hid h'
  clear h h'
  cases hr : rightB l
  · rw [joinV_no (by rw [hr]; simp)]
    go_enter Try.func53, Try.ntmps53
    go_wp2_with (go_at_call 50; refine (seenRight _ _ l _ hl H.out).mono ?_; rintro e w' ⟨rfl, hb⟩)
    go_ret
    exact gives_nil _ _ hb
  cases hr' : rightB l'
  · rw [joinV_no (by rw [hr']; simp)]
    go_enter Try.func53, Try.ntmps53
    go_wp2_with fail
    refine (seenRight a cap l _ hl H.out).mono ?_
    rintro e w1 ⟨rfl, hb⟩
    go_wp2_with fail
    refine (seenRight b cap' l' _ hl' (H'.out.mono hb)).mono ?_
    rintro e w2 ⟨rfl, hb2⟩
    go_wp2
    go_ret
    exact gives_nil _ _ (hb.trans (hb2.mono hb.size))
  · rw [joinV_right hr hr']
    have HR := Lib.hid hr
    have HR' := Lib.hid hr'
    have h5 := right_len hr'
    go_enter Try.func53, Try.ntmps53
    go_wp2_with fail
    refine (seenRight a cap l _ hl H.out).mono ?_
    rintro e w1 ⟨rfl, hb⟩
    have HB1 := Lib.hid hb
    clear hb
    go_wp2_with fail
    refine (seenRight b cap' l' _ hl' (H'.out.mono HB1.out)).mono ?_
    rintro e w2 ⟨rfl, hb2⟩
    have HB2 := Lib.hid (HB1.out.trans (hb2.mono HB1.out.size))
    clear hb2
    go_wp2_with fail
    refine (byNode a cap l _ HR.out (H.out.mono HB2.out)).mono ?_
    rintro e w3 ⟨rfl, hm3, hb3⟩
    have HM3 := Lib.hid hm3
    have HB3 := Lib.hid (HB2.out.trans (hb3.mono HB2.out.size))
    have hz2 := HB2.out.size
    clear hm3 hb3
    go_wp2
    go_loopw [22] (fun i wr => ∃ (k : Nat), k ≤ l'.length ∧ i = .int .i64 k ∧ MapOf wr w2.heap.size (5 + k) ((l'.take k).foldl jn (mapL l)) ∧ Below w.heap.size w wr) (fun i _ => l'.length - (intOf i).toNat)
    case atStart => exact ⟨0, Nat.zero_le _, rfl, HM3.out, HB3.out⟩
    case round =>
      obtain ⟨k, hk, rfl, hm, hbel⟩ := hrel
      have HM := Lib.hid hm
      have HB := Lib.hid hbel
      have hlt0 := hm.lt
      clear hm hbel
      by_cases hlt : k < l'.length
      · obtain ⟨g, off, rfl, hg, c0, c1⟩ := (H'.out.mono HB.out).cells hlt
        have hq := right_get HR'.out k hlt
        have HS := Lib.hid (fold_take jn (mapL l) l' k hlt)
        generalize l'[k] = m at c0 c1 HS hq
        generalize (l'.take k).foldl jn (mapL l) = f at HM HS
        obtain ⟨x, y⟩ := m
        simp only at c0 c1 hq
        go_wp2_with fail
        refine (removeOld w2.heap.size (5 + k) f (x, y) _ (wf_small (by simp only; omega) (by simp only; omega)) (HM.out.alloc _)).mono ?_
        rintro e w4 ⟨rfl, hm4, hw4⟩
        have hz4 := hw4.size
        simp at hz4
        have hs4 : w4.heap[wr.heap.size]? = _ := hw4.block wr.heap.size (by simp) (by omega)
        have c4 : w4.cell? ⟨wr.heap.size, 0, none⟩ = some (.int .i64 x) := by rw [World.cell?_of_block (a := ⟨wr.heap.size, 0, none⟩) hs4, World.cell?_alloc_mark]; rfl
        have c5 : w4.cell? ⟨wr.heap.size, 1, none⟩ = some (.int .i64 y) := by rw [World.cell?_of_block (a := ⟨wr.heap.size, 1, none⟩) hs4, World.cell?_alloc_mark]; rfl
        clear hs4
        have hlook := hm4.look_ok (k := x) (wf_small (by omega) (by omega))
        have HM4 := Lib.hid hm4
        have HB4 := Lib.hid ((HB.out.alloc HB.out.size (.cells #[.int .i64 x, .int .i64 y] 30)).trans (hw4.below (B := w.heap.size) (by omega) (by have := HB.out.size; simp; omega)))
        clear hm4 hw4
        have HJ : Hid (jn f (x, y) = if (rm f (x, y) x).isSome = true then rm f (x, y) else upd (rm f (x, y)) (x, y)) := Lib.hid rfl
        generalize rm f (x, y) = f4 at HM4 hlook HJ
        generalize at_ f4 x = q at hlook
        obtain ⟨q0, q1⟩ := q
        unfold mv at hlook
        simp only at hlook
        cases hsome : (f4 x).isSome
        · rw [hsome] at hlook HJ
          obtain ⟨w5, hrun, hm5, hw5⟩ := (HM4.out.alloc (.cells #[.int .i64 q0, .int .i64 q1] 30)).store (x, y) (wf_small (by simp only; omega) (by simp only; omega)) (by unfold maxLen; omega)
          have HM5 := Lib.hid hm5
          have HB5 := Lib.hid ((HB4.out.alloc HB4.out.size (.cells #[.int .i64 q0, .int .i64 q1] 30)).trans (hw5.below (B := w.heap.size) (by omega) (by have := HB4.out.size; simp; omega)))
          clear hm5 hw5
          have c6 := (World.cell?_alloc_lt w4 (.cells #[.int .i64 q0, .int .i64 q1] 30) ⟨wr.heap.size, 0, none⟩ (by simp only; omega)).trans c4
          have c7 := (World.cell?_alloc_lt w4 (.cells #[.int .i64 q0, .int .i64 q1] 30) ⟨wr.heap.size, 1, none⟩ (by simp only; omega)).trans c5
          unfold mv at hrun
          simp only at hrun
          go_wp2
          go_roundw
          case rel => exact ⟨k + 1, by omega, by go_num, by rw [HS.out, HJ.out]; exact HM5.out, HB5.out⟩
          case measure => go_light; simp [intOf]; omega
        · rw [hsome] at hlook HJ
          go_wp2
          go_roundw
          case rel => exact ⟨k + 1, by omega, by go_num, by rw [HS.out, HJ.out]; exact (HM4.out.alloc _).mono (by omega), HB4.out.alloc HB4.out.size _⟩
          case measure => go_light; simp [intOf]; omega
      · have he : l'.take k = l' := List.take_of_length_le (by omega)
        rw [he] at HM
        clear he
        go_wp2_with fail
        refine (inOrder w2.heap.size (5 + k) (l'.foldl jn (mapL l)) _ (by omega) (foldl_jn l' 0 (mapL l) (neat_mapL HR.out) HR'.out).1 HM.out).mono ?_
        rintro e w6 ⟨a6, c6, rfl, ho6, hb6⟩
        have HB6 := Lib.hid (HB.out.trans (hb6.mono HB.out.size))
        have HO6 := Lib.hid (ho6.wide HB.out.size (Nat.le_refl _))
        clear ho6 hb6
        go_wp2
        go_ret
        exact ⟨a6, c6, rfl, HO6.out, HB6.out⟩

end Go.Proofs.Ytgbcogncnhbmeaa.Mk
