/- The values of SeenPut, and what a call that returns them leaves. No condition. -/
import Derived.Test.YtiaoifodaoifjaaDoorJoinMath
import Derived.Test.YtiaoifodaoifjaaDoorMark
set_option linter.unusedSimpArgs false
set_option linter.unusedVariables false
namespace Go.Proofs.YtiaoifodaoifjaaDoor.Mk
open Go.RowKit

/-- the marks of SeenPut, and its code -/
def putL (l : List (Int × Int)) (m : Int × Int) : List (Int × Int) := if l.length ≤ 400 ∧ rightB l = true ∧ dotB m = true then joinTo l [m] 5 else []
def putC (l : List (Int × Int)) (m : Int × Int) : Int := if l.length ≤ 400 then (if rightB l = true ∧ dotB m = true then 0 else 1) else 2
theorem putL_no {l : List (Int × Int)} {m : Int × Int} (h : rightB l = false ∨ dotB m = false) : putL l m = [] := if_neg (by rcases h with h | h <;> simp [h])
theorem putL_great {l : List (Int × Int)} {m : Int × Int} (h : ¬ l.length ≤ 400) : putL l m = [] := if_neg (fun c => h c.1)
theorem putC_great {l : List (Int × Int)} {m : Int × Int} (h : ¬ l.length ≤ 400) : putC l m = 2 := if_neg h
theorem putC_form {l : List (Int × Int)} {m : Int × Int} (hs : l.length ≤ 400) (h : rightB l = false ∨ dotB m = false) : putC l m = 1 := by
  unfold putC; rw [if_pos hs, if_neg (by rcases h with h | h <;> simp [h])]
theorem putC_ok {l : List (Int × Int)} {m : Int × Int} (hs : l.length ≤ 400) (hr : rightB l = true) (hd : dotB m = true) : putC l m = 0 := by
  unfold putC; rw [if_pos hs, if_pos ⟨hr, hd⟩]
theorem putL_yes {l : List (Int × Int)} {m : Int × Int} (hs : l.length ≤ 400) (hr : rightB l = true) (hd : dotB m = true) : putL l m = joinTo l [m] 5 := if_pos ⟨hs, hr, hd⟩
theorem right_one {m : Int × Int} (hd : dotB m = true) : rightB [m] = true := okFrom_cons.2 ⟨hd, by have := (dotB_iff m).1 hd; omega, rfl⟩
theorem joinV_one {l : List (Int × Int)} {m : Int × Int} (hr : rightB l = true) (hd : dotB m = true) : putL l m = joinV l [m] := by
  rw [putL_yes (Nat.le_trans (right_len hr) (by omega)) hr hd]; exact (if_pos ⟨hr, right_one hd⟩).symm
theorem putL_length (l : List (Int × Int)) (m : Int × Int) : (putL l m).length ≤ 5 := by
  unfold putL; split
  · exact joinTo_length l [m] 5
  · simp
/-- what a call that returns marks and a code leaves -/
def GivesOut (w : World) (l : List (Int × Int)) (code : Int) (e : Ending) (w' : World) : Prop :=
  ∃ a cap, e = .returned (.agg #[.slice a l.length cap, .int .i64 code]) ∧ OwnIn w' w.heap.size w'.heap.size a l ∧ Below w.heap.size w w'
theorem marks_one (w : World) (x y : Int) : MarksAt (w.alloc (.cells #[.int .i64 x, .int .i64 y] 64)) (some ⟨w.heap.size, 0, none⟩) [(x, y)] := by
  refine .inr ⟨_, 0, rfl, fun i hi => ?_⟩
  have : i = 0 := by simpa using hi
  subst this
  exact ⟨by rw [World.cell?_alloc_mark]; rfl, by rw [World.cell?_alloc_mark]; rfl⟩
/-- a mark that was boxed at block n, and a zero result behind it -/
structure Boxed (w : World) (n : Nat) (x y : Int) : Prop where
  b0 : w.cell? ⟨n, 0, none⟩ = some (.int .i64 x)
  b1 : w.cell? ⟨n, 1, none⟩ = some (.int .i64 y)
  r0 : w.cell? ⟨n + 1, 0, none⟩ = some (.slice none 0 0)
  r1 : w.cell? ⟨n + 1, 1, none⟩ = some (.int .i64 0)
  f0 : w.frozen? ⟨n + 1, 0, none⟩ = false
  f1 : w.frozen? ⟨n + 1, 1, none⟩ = false
  lt : n + 1 < w.heap.size
theorem Boxed.new (w : World) (x y : Int) (t t' : TypeId) : Boxed ((w.alloc (.cells #[.int .i64 x, .int .i64 y] t)).alloc (.cells #[.slice none 0 0, .int .i64 0] t')) w.heap.size x y := by
  have e : (w.alloc (.cells #[.int .i64 x, .int .i64 y] t)).heap.size = w.heap.size + 1 := by simp
  constructor
  · rw [World.cell?_alloc_lt _ _ _ (by simp), World.cell?_alloc_mark]; rfl
  · rw [World.cell?_alloc_lt _ _ _ (by simp), World.cell?_alloc_mark]; rfl
  · rw [← e, World.cell?_alloc_mark]; rfl
  · rw [← e, World.cell?_alloc_mark]; rfl
  · rw [← e, World.frozen?_alloc_mark]; simp
  · rw [← e, World.frozen?_alloc_mark]; simp
  · simp
theorem Boxed.below {w w' : World} {n : Nat} {x y : Int} (h : Boxed w n x y) (hb : Below w.heap.size w w') : Boxed w' n x y where
  b0 := (hb.cell (p := ⟨n, 0, none⟩) (by have := h.lt; simp only; omega)).trans h.b0
  b1 := (hb.cell (p := ⟨n, 1, none⟩) (by have := h.lt; simp only; omega)).trans h.b1
  r0 := (hb.cell (p := ⟨n + 1, 0, none⟩) h.lt).trans h.r0
  r1 := (hb.cell (p := ⟨n + 1, 1, none⟩) h.lt).trans h.r1
  f0 := (hb.frozen (p := ⟨n + 1, 0, none⟩) h.lt).trans h.f0
  f1 := (hb.frozen (p := ⟨n + 1, 1, none⟩) h.lt).trans h.f1
  lt := Nat.lt_of_lt_of_le h.lt hb.size
end Go.Proofs.YtiaoifodaoifjaaDoor.Mk
