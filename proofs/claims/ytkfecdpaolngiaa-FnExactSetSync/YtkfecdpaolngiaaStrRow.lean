/- Rows of strings: what the laws compare, mark and hold; contracts of spec.Values and impl.Values. No condition but on sizes. -/
import Derived.Test.YtkfecdpaolngiaaSetMark
import Derived.Test.YtkfecdpaolngiaaSetRightI
import Derived.Test.YtkfecdpaolngiaaSetRightS
import Derived.Test.YtkfecdpaolngiaaSeenBytes
import Derived.Deep.RegionHeld3
set_option linter.unusedSimpArgs false
set_option linter.unusedVariables false
namespace Go.Proofs.Ytkfecdpaolngiaa.Sb
open Go.RowKit Go.Proofs.Ytkfecdpaolngiaa.Mk Go.Proofs.Ytkfecdpaolngiaa.Rw

def tenc (s : ByteArray) : Nat → Value := fun _ => .string s
theorem flat1 (l : List ByteArray) : flatE 1 tenc l = l.map .string := by
  induction l with
  | nil => rfl
  | cons x r ih =>
    show tenc x 0 :: flatE 1 tenc r = _
    rw [ih]; rfl
theorem tcell {w : World} {a : Option Addr} {l : List ByteArray} (h : RowAt 1 tenc w a l) {i : Nat} (hi : i < l.length) : ∃ g off, a = some ⟨g, off, none⟩ ∧ g < w.heap.size ∧ w.cell? ⟨g, off + i, none⟩ = some (.string l[i]) := by
  obtain ⟨g, off, ha, hg, hc⟩ := RowAt.cells (by decide) h hi
  have := hc 0 (by decide)
  rw [Nat.mul_one, Nat.add_zero] at this
  exact ⟨g, off, ha, hg, this⟩
theorem town {w : World} {g : Nat} {l : List ByteArray} (h : ROwn 1 tenc w g l) {i : Nat} (hi : i < l.length) : w.cell? ⟨g, i, none⟩ = some (.string l[i]) := by
  have := h.cell i hi 0 (by decide)
  rwa [Nat.mul_one, Nat.add_zero] at this
theorem town_set {w : World} {g : Nat} {l : List ByteArray} (h : ROwn 1 tenc w g l) (i : Nat) (hi : i < l.length) (x : ByteArray) : ROwn 1 tenc (w.setCell ⟨g, i, none⟩ (.string x)) g (l.set i x) :=
  h.put i x (fun j hj => by
      obtain rfl : j = 0 := by omega
      rw [Nat.mul_one, Nat.add_zero]
      exact World.cell?_setCell_same _ _ _ (town h hi))
    (fun o ho => World.cell?_setCell_other _ _ _ _ (ne_off (by omega))) (fun j => World.frozen?_setCell _ _ _ _)
def strL (k n : Nat) : List ByteArray := (List.range n).map fun i => markT (k + i)
theorem strL_length (k n : Nat) : (strL k n).length = n := by simp [strL]
theorem strL_get (k n i : Nat) (h : i < (strL k n).length) : (strL k n)[i] = markT (k + i) := by simp [strL]
def MarkedT (w : World) (lo hi : Nat) (a : Option Addr) (k n : Nat) (e : Ending) (w' : World) : Prop :=
  e = .returned (.int .i64 ((k + n : Nat) : Int)) ∧ ROwnIn 1 tenc w' lo hi a (strL k n) ∧ Within lo hi w w'
/-- the data of the Sibs that are not gone -/
def vals (s : List Sib) : List ByteArray := (s.filter fun x => !x.2.1).map fun x => x.2.2
def setVals (l : List (Int × Int)) (s : List Sib) : List ByteArray := if setB l s = true then vals s else []
theorem vals_len (s : List Sib) : (vals s).length ≤ s.length := by unfold vals; rw [List.length_map]; exact List.length_filter_le _ _
theorem vals_take (s : List Sib) (k : Nat) (h : k < s.length) : vals (s.take (k + 1)) = vals (s.take k) ++ (if s[k].2.1 = true then [] else [s[k].2.2]) := by
  unfold vals
  rw [List.take_succ_eq_append_getElem h, List.filter_append, List.map_append]
  cases e : s[k].2.1 <;> simp [e]
theorem setVals_no {l : List (Int × Int)} {s : List Sib} (h : setB l s = false) : setVals l s = [] := if_neg (by rw [h]; simp)
theorem setVals_yes {l : List (Int × Int)} {s : List Sib} (h : setB l s = true) : setVals l s = vals s := if_pos h
def VGives (w : World) (l : List ByteArray) (e : Ending) (w' : World) : Prop :=
  ∃ a cap, e = .returned (.slice a l.length cap) ∧ ROwnIn 1 tenc w' w.heap.size w'.heap.size a l ∧ Below w.heap.size w w'
theorem run_make_strs (n : Nat) (hn : n ≤ 1048576) (w : World) :
    (Instr.makeSlice 43 (.int .i64 0) (.int .i64 (n : Int))).run Try.prog w = .ok (.slice (some ⟨w.heap.size, 0, none⟩) 0 n) (w.alloc (.cells (madeCells #[.string ⟨#[]⟩] (n * 1)) 9)) := by
  obtain ⟨i0, hi, hz0, hz1, hz2⟩ := info_parts Mk.infoS
  have := run_make (P := Try.prog) w 43 9 i0 _ Try.underlying43 hi hz0 .i64 .i64 0 n (by omega) (by omega) (by rw [hz2]; omega) (by omega)
  rw [hz1] at this
  simpa [Value.cells] using this
end Go.Proofs.Ytkfecdpaolngiaa.Sb
