/- Contracts of slices.Index and slices.Contains at integers, and of spec.l04Among; an integer appended to a row. Condition: no more integers than a slice may have. -/
import Derived.Test.YteibkoaepgdmlaaDoorIntRow
set_option linter.unusedSimpArgs false
set_option linter.unusedVariables false
namespace Go.Proofs.YteibkoaepgdmlaaDoor.Iz
open Go.RowKit Go.Proofs.YteibkoaepgdmlaaDoor.Mk Go.Proofs.YteibkoaepgdmlaaDoor.Rw

theorem among_step {l : List Int} {x : Int} {k : Nat} (h : k < l.length) (h1 : ∀ i (hi : i < l.length), i < k → l[i] ≠ x) (h2 : l[k] ≠ x) : ∀ i (hi : i < l.length), i < k + 1 → l[i] ≠ x := fun i hi hk => by
  by_cases e : i = k
  · subst e; exact h2
  · exact h1 i hi (by omega)
theorem among_none {l : List Int} {x : Int} (h1 : ∀ i (hi : i < l.length), i < l.length → l[i] ≠ x) : decide (x ∈ l) = false := by
  refine decide_eq_false fun h => ?_
  obtain ⟨i, hi, e⟩ := List.getElem_of_mem h
  exact h1 i hi hi e
set_option maxRecDepth 100000 in
set_option maxHeartbeats 1000000 in
theorem spec_among (a : Option Addr) (cap : Nat) (l : List Int) (x : Int) (w : World) (hl : l.length ≤ maxLen) (h : RowAt 1 zenc w a l) :
    Calls Tryd.prog 80 #[.slice a l.length cap, .int .i64 x] w fun e w' => e = .returned (.bool (decide (x ∈ l))) ∧ w = w' := by
  have H := Lib.hid h
  clear h
  unfold maxLen at hl
  go_enter Tryd.func80, Tryd.ntmps80
  go_wp2
  go_loop [5] (fun i => ∃ (k : Nat), k ≤ l.length ∧ i = .int .i64 k ∧ ∀ i (hi : i < l.length), i < k → l[i] ≠ x) (fun i => l.length - (intOf i).toNat)
  case atStart => exact ⟨0, Nat.zero_le _, rfl, fun i hi h2 => by omega⟩
  case round =>
    obtain ⟨k, hk, rfl, hno⟩ := hrel
    have HN := Lib.hid hno
    clear hno
    by_cases hlt : k < l.length
    · obtain ⟨g, off, rfl, hg, c⟩ := zcell H.out hlt
      have i1 : (k : Int) < (l.length : Int) := by omega
      by_cases he : l[k] = x
      · have HY := Lib.hid (show decide (x ∈ l) = true from decide_eq_true (he ▸ List.getElem_mem hlt))
        rw [he] at c
        clear he
        go_wp2
        go_ret
        exact ⟨ret_bool HY.out.symm, rfl⟩
      · have HY := Lib.hid (among_step hlt HN.out he)
        have hq : (l[k] == x) = false := by simpa using he
        generalize l[k] = y at c hq
        clear he
        go_wp2
        go_round
        case rel => exact ⟨k + 1, by omega, by go_num, HY.out⟩
        case measure => go_light; simp [intOf]; omega
    · have HY := Lib.hid (among_none (x := x) (fun i hi h2 => HN.out i hi (by omega)))
      go_wp2
      go_ret
      exact ⟨ret_bool HY.out.symm, rfl⟩
set_option maxRecDepth 100000 in
set_option maxHeartbeats 1000000 in
theorem slices_index (a : Option Addr) (cap : Nat) (l : List Int) (x : Int) (w : World) (hl : l.length ≤ maxLen) (h : RowAt 1 zenc w a l) :
    Calls Tryd.prog 74 #[.slice a l.length cap, .int .i64 x] w fun e w' => (∃ i : Int, e = .returned (.int .i64 i) ∧ Hid (0 ≤ i ↔ x ∈ l)) ∧ w = w' := by
  have H := Lib.hid h
  clear h
  unfold maxLen at hl
  go_enter Tryd.func74, Tryd.ntmps74
  go_wp2
  go_loop [8] (fun i => ∃ (k : Nat), k ≤ l.length ∧ i = .int .i64 k ∧ ∀ i (hi : i < l.length), i < k → l[i] ≠ x) (fun i => l.length - (intOf i).toNat)
  case atStart => exact ⟨0, Nat.zero_le _, rfl, fun i hi h2 => by omega⟩
  case round =>
    obtain ⟨k, hk, rfl, hno⟩ := hrel
    have HN := Lib.hid hno
    clear hno
    by_cases hlt : k < l.length
    · obtain ⟨g, off, rfl, hg, c⟩ := zcell H.out hlt
      have i1 : (k : Int) < (l.length : Int) := by omega
      by_cases he : l[k] = x
      · have HY := Lib.hid (show x ∈ l from he ▸ List.getElem_mem hlt)
        rw [he] at c
        clear he
        go_wp2
        go_ret
        exact ⟨⟨_, rfl, Lib.hid ⟨fun _ => HY.out, fun _ => by omega⟩⟩, rfl⟩
      · have HY := Lib.hid (among_step hlt HN.out he)
        have hq : (x == l[k]) = false := by simpa using fun e => he e.symm
        generalize l[k] = y at c hq
        clear he
        go_wp2
        go_round
        case rel => exact ⟨k + 1, by omega, by go_num, HY.out⟩
        case measure => go_light; simp [intOf]; omega
    · have HY := Lib.hid (among_none (x := x) (fun i hi h2 => HN.out i hi (by omega)))
      go_wp2
      go_ret
      exact ⟨⟨_, rfl, Lib.hid ⟨fun h => absurd h (by omega), fun h => absurd h (of_decide_eq_false HY.out)⟩⟩, rfl⟩
set_option maxRecDepth 100000 in
theorem slices_contains (a : Option Addr) (cap : Nat) (l : List Int) (x : Int) (w : World) (hl : l.length ≤ maxLen) (h : RowAt 1 zenc w a l) :
    Calls Tryd.prog 47 #[.slice a l.length cap, .int .i64 x] w fun e w' => e = .returned (.bool (decide (x ∈ l))) ∧ w = w' := by
  have hc := slices_index a cap l x w hl h
  have HB : Hid (∀ i : Int, Hid (0 ≤ i ↔ x ∈ l) → decide (0 ≤ i) = decide (x ∈ l)) := Lib.hid fun i h => decide_eq_decide.2 h.out
  clear hl h
  go_enter Tryd.func47, Tryd.ntmps47
  go_wp2_with (go_at_call 74; refine hc.mono ?_; rintro e w' ⟨⟨i, rfl, hd⟩, rfl⟩)
  go_ret
  refine ⟨ret_bool ?_, rfl⟩
  exact HB.out i hd
/-- an integer that was just laid in memory, appended to a row of the call's own -/
theorem wpList_append_int (w0 : World) {ops : Array Oper} {rest : List Oper} {o : Oper} {a : Act} {Q : Exit → Act → World → Prop} (hg : o.guard = none) (s x : Operand)
    (hop : o.op = .call { callee := .builtin .append, args := #[s, x], argTypes := #[30, 30] }) (B : Nat) (v : Value) (l : List Int) (m : Int) (hs : a.eval s = v) (G : Nat) (hG : w0.heap.size = G)
    (hx : a.eval x = .slice (some ⟨G, 0, none⟩) 1 1) (hown : w0.ownsRow B 2 1 v l.length (flatE 1 zenc l)) (hl : l.length ≤ 1000000) (hB : B ≤ w0.heap.size)
    (h : ∀ v' w', w'.ownsRow B 2 1 v' (l ++ [m]).length (flatE 1 zenc (l ++ [m])) → Below B w0 w' → wpList Tryd.prog ops Q rest (a.put o.dst v') w') :
    wpList Tryd.prog ops Q (o :: rest) a (w0.alloc (.cells #[.int .i64 m] 2)) := by
  subst hG
  obtain ⟨i0, hi, hz0, hz1, hz2⟩ := info_parts infoZ
  refine wpList_append_own _ hg s x 30 hop B 2 i0 _ 1 8 Tryd.underlying30 hi hz0 hz1 hz2 rfl (by decide) v l.length (flatE 1 zenc l) hs (hown.alloc _) ⟨w0.heap.size, 0, none⟩ 1 1 [.int .i64 m] hx rfl
    (World.news_of_block (cs := #[.int .i64 m]) (heap_alloc_new w0 _)) (fun u hu => by simp at hu; rcases hu with rfl; rfl) (by unfold maxLen; omega) (by omega) (by simp; omega) (fun v' w' h1 h2 _ => h v' w' ?_ ?_)
  · rw [flatE_append, List.length_append]; exact h1
  · exact ((Below.refl B w0).alloc hB _).grown h2 (by simp; omega) (fun k hk => (hown.lt k hk).1)
end Go.Proofs.YteibkoaepgdmlaaDoor.Iz
