/- Rows of strings: what the laws compare, mark and hold; contracts of spec.Values and impl.Values. No condition but on sizes. -/
import Derived.Test.YtloenigleamcoaaSetMark
import Derived.Test.YtloenigleamcoaaTRow
import Derived.Test.YtloenigleamcoaaSetRightI
import Derived.Test.YtloenigleamcoaaSetRightS
import Derived.Test.YtloenigleamcoaaSeenBytes
import Derived.Deep.RegionHeld3
set_option linter.unusedSimpArgs false
set_option linter.unusedVariables false
namespace Go.Proofs.Ytloenigleamcoaa.Sb
open Go.RowKit Go.Proofs.Ytloenigleamcoaa.Mk Go.Proofs.Ytloenigleamcoaa.Rw

/-- the data of the Sibs that are not gone -/
def vals (s : List Sib) : List ByteArray := (s.filter fun x => !x.2.1).map fun x => x.2.2
def setVals (l : List (Int × Int)) (s : List Sib) : List ByteArray := if setB l s = true then vals s else []
theorem vals_len (s : List Sib) : (vals s).length ≤ s.length := by unfold vals; rw [List.length_map]; exact List.length_filter_le _ _
theorem vals_take (s : List Sib) (k : Nat) (h : k < s.length) : vals (s.take (k + 1)) = vals (s.take k) ++ (if s[k].2.1 = true then [] else [s[k].2.2]) := by
  unfold vals
  rw [List.take_succ_eq_append_getElem h, List.filter_append, List.map_append]
  cases e : s[k].2.1 <;> simp [e]
theorem setVals_no {l : List (Int × Int)} {s : List Sib} (h : setB l s = false) : setVals l s = [] := if_neg (by rw [h]; simp)
theorem setVals_yes {l : List (Int × Int)} {s : List Sib} (h : setB l s = true) : setVals l s = vals s := if_pos h
def VGives (w : World) (l : List ByteArray) (e : Ending) (w' : World) : Prop :=
  ∃ a cap, e = .returned (.slice a l.length cap) ∧ ROwnIn 1 tenc w' w.heap.size w'.heap.size a l ∧ Below w.heap.size w w'
theorem run_make_strs (n : Nat) (hn : n ≤ 1048576) (w : World) :
    (Instr.makeSlice 100 (.int .i64 0) (.int .i64 (n : Int))).run Try.prog w = .ok (.slice (some ⟨w.heap.size, 0, none⟩) 0 n) (w.alloc (.cells (madeCells #[.string ⟨#[]⟩] (n * 1)) 9)) := by
  obtain ⟨i0, hi, hz0, hz1, hz2⟩ := info_parts Mk.infoS
  have := run_make (P := Try.prog) w 100 9 i0 _ Try.underlying100 hi hz0 .i64 .i64 0 n (by omega) (by omega) (by rw [hz2]; omega) (by omega)
  rw [hz1] at this
  simpa [Value.cells] using this
end Go.Proofs.Ytloenigleamcoaa.Sb
