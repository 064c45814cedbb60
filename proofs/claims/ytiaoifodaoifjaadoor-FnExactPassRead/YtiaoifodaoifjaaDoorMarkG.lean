/- Pairs of integers (marks, tokens) in memory: a slice of marks that reads as a list of pairs, kept while other blocks turn. No condition. -/
import Derived.Test.YtiaoifodaoifjaaDoorRows
import Derived.Test.YtiaoifodaoifjaaDoorMarkMath
import Derived.WalkKit
import Derived.ProofKit
import Derived.OpenShut
import Derived.Lib.Hide
import Derived.Deep.Light
import Derived.OwnWalk
import Derived.Maps.AppendAt
import Derived.Deep.AppendLies
set_option linter.unusedSimpArgs false
set_option linter.unusedVariables false
namespace Go.Proofs.YtiaoifodaoifjaaDoor.Mk
open Go.RowKit

theorem ret_bool {a b : Bool} (h : a = b) : Ending.returned (.bool a) = .returned (.bool b) := by rw [h]
theorem ret_i64 {a b : Int} (h : a = b) : Ending.returned (.int .i64 a) = .returned (.int .i64 b) := by rw [h]
theorem bcell {W w1 : World} (hb : Below W.heap.size W w1) : (∀ b o, b < W.heap.size → w1.cell? ⟨b, o, none⟩ = W.cell? ⟨b, o, none⟩) ∧ (∀ b o, b < W.heap.size → w1.frozen? ⟨b, o, none⟩ = W.frozen? ⟨b, o, none⟩) :=
  ⟨fun b o h => hb.cell (p := ⟨b, o, none⟩) h, fun b o h => hb.frozen (p := ⟨b, o, none⟩) h⟩
/-- the value of a mark -/
def mv (m : Int × Int) : Value := .agg #[.int .i64 m.1, .int .i64 m.2]
/-- the slice at a reads as the marks l -/
def MarksAt (w : World) (a : Option Addr) (l : List (Int × Int)) : Prop :=
  l = [] ∨ ∃ g off, a = some ⟨g, off, none⟩ ∧ ∀ i (h : i < l.length), w.cell? ⟨g, off + i * 2, none⟩ = some (.int .i64 l[i].1) ∧ w.cell? ⟨g, off + i * 2 + 1, none⟩ = some (.int .i64 l[i].2)
/-- .. and all that it reads lies below block B -/
def MarksBelow (w : World) (B : Nat) (a : Option Addr) (l : List (Int × Int)) : Prop :=
  l = [] ∨ ∃ g off, a = some ⟨g, off, none⟩ ∧ g < B ∧ ∀ i (h : i < l.length), w.cell? ⟨g, off + i * 2, none⟩ = some (.int .i64 l[i].1) ∧ w.cell? ⟨g, off + i * 2 + 1, none⟩ = some (.int .i64 l[i].2)
theorem MarksAt.below {w : World} {a : Option Addr} {l : List (Int × Int)} (h : MarksAt w a l) : MarksBelow w w.heap.size a l := by
  rcases h with h | ⟨g, off, ha, hc⟩
  · exact .inl h
  · by_cases hl : l = []
    · exact .inl hl
    · have h0 : 0 < l.length := List.length_pos_iff.2 hl
      exact .inr ⟨g, off, ha, by simpa using World.block_lt_of_cell? w _ (hc 0 h0).1, hc⟩
theorem MarksAt.mono {w w' : World} {a : Option Addr} {l : List (Int × Int)} (h : MarksAt w a l) (hb : Below w.heap.size w w') : MarksAt w' a l := by
  rcases h.below with h | ⟨g, off, ha, hg, hc⟩
  · exact .inl h
  · exact .inr ⟨g, off, ha, fun i hi => ⟨(hb.cell (p := ⟨g, _, none⟩) hg).trans (hc i hi).1, (hb.cell (p := ⟨g, _, none⟩) hg).trans (hc i hi).2⟩⟩
theorem MarksAt.mono' {w w' : World} {a : Option Addr} {l : List (Int × Int)} {B : Nat} (h : MarksAt w a l) (hw : w.heap.size ≤ B) (hb : Below B w w') : MarksAt w' a l := h.mono (hb.mono hw)
theorem MarksAt.drew {w : World} {a : Option Addr} {l : List (Int × Int)} (h : MarksAt w a l) : MarksAt w.drew a l := h
theorem MarksAt.nil (w : World) (a : Option Addr) : MarksAt w a [] := .inl rfl
/-- the cells of element k, for a walk -/
theorem MarksAt.cells {w : World} {a : Option Addr} {l : List (Int × Int)} (h : MarksAt w a l) {k : Nat} (hk : k < l.length) :
    ∃ g off, a = some ⟨g, off, none⟩ ∧ g < w.heap.size ∧ w.cell? ⟨g, off + k * 2, none⟩ = some (.int .i64 l[k].1) ∧ w.cell? ⟨g, off + k * 2 + 1, none⟩ = some (.int .i64 l[k].2) := by
  rcases h.below with rfl | ⟨g, off, ha, hg, hc⟩
  · cases hk
  · exact ⟨g, off, ha, hg, hc k hk⟩

/-- the blocks lo, .., hi - 1 are as they were -/
def Same (lo hi : Nat) (w w' : World) : Prop := ∀ b, lo ≤ b → b < hi → w'.heap[b]? = w.heap[b]?
theorem Same.of_below {B lo hi : Nat} {w w' : World} (h : Below B w w') (hh : hi ≤ B) : Same lo hi w w' := fun b _ h2 => h.block b (by omega)
/-- of what was there the blocks lo, .., hi - 1 alone may have turned -/
structure Within (lo hi : Nat) (w w' : World) : Prop where
  os : w'.os = w.os
  tape : w'.tape = w.tape
  output : w'.output = w.output
  size : w.heap.size ≤ w'.heap.size
  block : ∀ k, k < w.heap.size → k < lo ∨ hi ≤ k → w'.heap[k]? = w.heap[k]?
theorem Within.refl (lo hi : Nat) (w : World) : Within lo hi w w := ⟨rfl, rfl, rfl, Nat.le_refl _, fun _ _ _ => rfl⟩
theorem Within.trans {lo hi : Nat} {a b c : World} (h : Within lo hi a b) (k : Within lo hi b c) : Within lo hi a c :=
  ⟨k.os.trans h.os, k.tape.trans h.tape, k.output.trans h.output, Nat.le_trans h.size k.size, fun i hi ho => (k.block i (Nat.lt_of_lt_of_le hi h.size) ho).trans (h.block i hi ho)⟩
theorem Within.setCell {lo hi : Nat} {a w : World} (h : Within lo hi a w) {p : Addr} (h1 : lo ≤ p.block) (h2 : p.block < hi) (u : Value) : Within lo hi a (w.setCell p u) :=
  h.trans ⟨rfl, rfl, rfl, by simp [World.setCell], fun k _ hk => Below.heap_setCell _ _ _ _ (by omega)⟩
theorem Within.below {lo hi B : Nat} {w w' : World} (h : Within lo hi w w') (hB : B ≤ lo) (hs : B ≤ w.heap.size) : Below B w w' :=
  ⟨h.os, h.tape, h.output, h.size, fun k hk => h.block k (by omega) (by omega)⟩
theorem Within.same {lo hi lo' hi' : Nat} {w w' : World} (h : Within lo hi w w') (hs : hi' ≤ w.heap.size) (ha : hi' ≤ lo ∨ hi ≤ lo') : Same lo' hi' w w' :=
  fun b h1 h2 => h.block b (by omega) (by omega)

/-- block g holds the marks l, and may be written -/
structure Own (w : World) (g : Nat) (l : List (Int × Int)) : Prop where
  cell0 : ∀ i (h : i < l.length), w.cell? ⟨g, i * 2, none⟩ = some (.int .i64 l[i].1)
  cell1 : ∀ i (h : i < l.length), w.cell? ⟨g, i * 2 + 1, none⟩ = some (.int .i64 l[i].2)
  free : ∀ j, w.frozen? ⟨g, j, none⟩ = false
theorem Own.same {w w' : World} {g : Nat} {l : List (Int × Int)} (h : Own w g l) (hs : w'.heap[g]? = w.heap[g]?) : Own w' g l where
  cell0 := fun i hi => (World.cell?_of_block (a := ⟨g, i * 2, none⟩) hs).trans (h.cell0 i hi)
  cell1 := fun i hi => (World.cell?_of_block (a := ⟨g, i * 2 + 1, none⟩) hs).trans (h.cell1 i hi)
  free := fun j => (World.frozen?_of_block (a := ⟨g, j, none⟩) hs).trans (h.free j)
theorem ne_off {g a b : Nat} (h : a ≠ b) : (⟨g, a, none⟩ : Addr) ≠ ⟨g, b, none⟩ := fun e => h (congrArg Addr.off e)
theorem Own.set {w : World} {g : Nat} {l : List (Int × Int)} (h : Own w g l) (k : Nat) (hk : k < l.length) (x y : Int) :
    Own ((w.setCell ⟨g, k * 2, none⟩ (.int .i64 x)).setCell ⟨g, k * 2 + 1, none⟩ (.int .i64 y)) g (l.set k (x, y)) where
  cell0 := fun i hi => by
    have hi' : i < l.length := by simpa using hi
    rw [World.cell?_setCell_other _ _ _ _ (ne_off (by omega))]
    by_cases e : i = k
    · subst e; rw [World.cell?_setCell_same _ _ _ (h.cell0 i hi'), List.getElem_set_self]
    · rw [World.cell?_setCell_other _ _ _ _ (ne_off (by omega)), h.cell0 i hi', List.getElem_set_ne (fun hh => e hh.symm)]
  cell1 := fun i hi => by
    have hi' : i < l.length := by simpa using hi
    have c := h.cell1 i hi'
    rw [← World.cell?_setCell_other w (⟨g, k * 2, none⟩ : Addr) _ (.int .i64 x) (ne_off (by omega))] at c
    by_cases e : i = k
    · subst e; rw [World.cell?_setCell_same _ _ _ c, List.getElem_set_self]
    · rw [World.cell?_setCell_other _ _ _ _ (ne_off (by omega)), c, List.getElem_set_ne (fun hh => e hh.symm)]
  free := fun j => by rw [World.frozen?_setCell, World.frozen?_setCell]; exact h.free j
theorem Own.lt {w : World} {g : Nat} {l : List (Int × Int)} (h : Own w g l) (hl : 0 < l.length) : g < w.heap.size := by simpa using World.block_lt_of_cell? w _ (h.cell0 0 hl)
/-- a slice of marks of the call's own, in a block from lo on and below hi -/
def OwnIn (w : World) (lo hi : Nat) (a : Option Addr) (l : List (Int × Int)) : Prop := l = [] ∨ ∃ g, a = some ⟨g, 0, none⟩ ∧ lo ≤ g ∧ g < hi ∧ Own w g l
theorem OwnIn.same {w w' : World} {lo hi : Nat} {a : Option Addr} {l : List (Int × Int)} (h : OwnIn w lo hi a l) (hs : Same lo hi w w') : OwnIn w' lo hi a l := by
  rcases h with h | ⟨g, ha, h1, h2, ho⟩
  · exact .inl h
  · exact .inr ⟨g, ha, h1, h2, ho.same (hs g h1 h2)⟩
theorem OwnIn.at_ {w : World} {lo hi : Nat} {a : Option Addr} {l : List (Int × Int)} (h : OwnIn w lo hi a l) : MarksAt w a l := by
  rcases h with h | ⟨g, ha, h1, h2, ho⟩
  · exact .inl h
  · exact .inr ⟨g, 0, ha, fun i hi => by simpa using ⟨ho.cell0 i hi, ho.cell1 i hi⟩⟩
theorem OwnIn.wide {w : World} {lo hi lo' hi' : Nat} {a : Option Addr} {l : List (Int × Int)} (h : OwnIn w lo hi a l) (h1 : lo' ≤ lo) (h2 : hi ≤ hi') : OwnIn w lo' hi' a l := by
  rcases h with h | ⟨g, ha, h3, h4, ho⟩
  · exact .inl h
  · exact .inr ⟨g, ha, by omega, by omega, ho⟩
/-- what a call that makes a slice of marks leaves -/
def Gives (w : World) (l : List (Int × Int)) (e : Ending) (w' : World) : Prop :=
  ∃ a cap, e = .returned (.slice a l.length cap) ∧ OwnIn w' w.heap.size w'.heap.size a l ∧ Below w.heap.size w w'

theorem made_get (n j : Nat) (hj : j < n * 2) : (madeCells #[Value.int .i64 0, Value.int .i64 0] (n * 2))[j]? = some (.int .i64 0) := by
  have h2 : j % 2 = 0 ∨ j % 2 = 1 := by omega
  rcases h2 with e | e <;> simp [madeCells, hj, e]
/-- the cells of marks -/
def flat (l : List (Int × Int)) : List Value := l.flatMap fun m => [.int .i64 m.1, .int .i64 m.2]
theorem flat_length (l : List (Int × Int)) : (flat l).length = l.length * 2 := by
  induction l with
  | nil => rfl
  | cons x r ih => show (_ :: _ :: flat r).length = _; simp [ih]; omega
theorem flat_snoc (l : List (Int × Int)) (m : Int × Int) : flat (l ++ [m]) = flat l ++ [.int .i64 m.1, .int .i64 m.2] := by simp [flat]
theorem flat_get : ∀ (l : List (Int × Int)) (i : Nat) (h : i < l.length), (flat l)[i * 2]? = some (.int .i64 l[i].1) ∧ (flat l)[i * 2 + 1]? = some (.int .i64 l[i].2)
  | x :: r, 0, _ => ⟨rfl, rfl⟩
  | x :: r, i + 1, h => by
    have := flat_get r i (by simpa using h)
    have e : (i + 1) * 2 = i * 2 + 1 + 1 := by omega
    rw [e]
    simpa [flat] using this
/-- n marks numbered from k on -/
def markL (k : Int) (n : Nat) : List (Int × Int) := (List.range n).map fun (i : Nat) => (k + 2 * (i : Int), k + 2 * (i : Int) + 1)
theorem markL_length (k : Int) (n : Nat) : (markL k n).length = n := by simp [markL]
theorem markL_get (k : Int) (n i : Nat) (h : i < (markL k n).length) : (markL k n)[i] = (k + 2 * (i : Int), k + 2 * (i : Int) + 1) := by simp [markL]
/-- what markMarkS leaves -/
def Marked (w : World) (lo hi : Nat) (a : Option Addr) (k : Int) (n : Nat) (e : Ending) (w' : World) : Prop :=
  e = .returned (.int .i64 (k + 2 * (n : Int))) ∧ OwnIn w' lo hi a (markL k n) ∧ Within lo hi w w'

end Go.Proofs.YtiaoifodaoifjaaDoor.Mk
