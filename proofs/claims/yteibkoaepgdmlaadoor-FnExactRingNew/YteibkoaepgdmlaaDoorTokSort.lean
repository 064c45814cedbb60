/- Contract of slices.SortFunc at tokens under impl.tokenOrder: the row holds the tokens sorted. Condition: at most 1000 tokens. -/
import Derived.Test.YteibkoaepgdmlaaDoorTokOrd
import Derived.Test.YteibkoaepgdmlaaDoorFrame2
import Derived.Shelf.SlSortCmp.NoneTotal
import Derived.Ground.SlsfProg
import Derived.Shelf.Lay
set_option linter.unusedSimpArgs false
set_option linter.unusedVariables false
namespace Go.Proofs.YteibkoaepgdmlaaDoor.Rg
open Go.RowKit Go.Proofs.YteibkoaepgdmlaaDoor.Mk Go.Proofs.YteibkoaepgdmlaaDoor.Rw Go.Shelf Go.Sort
shelf_lay_g SlLaysF0.n6 Slsf 6 at Tryd 54 as sortLaid

def encT (x : Tok) : List Value := [.int .i64 x.1, .int .i64 x.2]
theorem ltOf_tlt : ltOf ordT = tlt := by
  funext x y
  exact ordT_dec x y
theorem swoT : SWO tlt where
  irrefl x := by rw [tlt_no]; omega
  trans x y z h1 h2 := by rw [tlt_iff] at *; omega
  ntrans x y z h1 h2 := by rw [tlt_no] at *; omega
theorem totT (x y : Tok) (h : tlt x y = false) (h' : tlt y x = false) : x = y := by
  rw [tlt_no] at *
  obtain ⟨a, b⟩ := x
  obtain ⟨c, d⟩ := y
  simp only at *
  have e1 : a = c := by omega
  have e2 : b = d := by omega
  rw [e1, e2]
theorem cmpT (blk off size : Nat) (w : World) : CmpLays Tryd.prog 46 #[] encT 2 ordT blk off size w :=
  fun _ _ _ _ x y => (tokenOrder x y _).mono fun _ _ h => ⟨h.1, grown_of h.2.1 h.2.2⟩
theorem holdsT {w : World} {g : Nat} {l : List Tok} (h : Own w g l) : HoldsK encT 2 w g 0 l.toArray := by
  intro j hj
  rw [size_flatK] at hj
  rw [get_flatK _ _ _ _ hj]
  have hj2 : j / 2 < l.length := by simp at hj; omega
  have e : l.toArray[j / 2]! = l[j / 2] := by simp [hj2]
  rw [e, Nat.zero_add]
  have hm : j % 2 = 0 ∨ j % 2 = 1 := by omega
  rcases hm with c | c
  · rw [c]
    have := h.cell0 (j / 2) hj2
    rw [show j / 2 * 2 = j by omega] at this
    exact ⟨this, h.free j⟩
  · rw [c]
    have := h.cell1 (j / 2) hj2
    rw [show j / 2 * 2 + 1 = j by omega] at this
    exact ⟨this, h.free j⟩
theorem ownT {w : World} {g n : Nat} {l l' : List Tok} {os : Array Obj} (h : Own w g l) (hg : g < w.heap.size) (hl : l'.length = l.length) : Own (sortWorldK encT 2 w g 0 n l'.toArray os) g l' := by
  have H := holdsK_sortWorldK_c encT 2 w g 0 l.toArray l'.toArray n os (holdsT h) hg (by simpa using hl)
  have C := fun i (hi : i < l'.length) c (hc : c < 2) => (H.cell (i := i) (c := c) (by simpa using hi) hc).1
  refine ⟨fun i hi => ?_, fun i hi => ?_, fun j => ?_⟩
  · have := C i hi 0 (by omega)
    simpa [encT, hi] using this
  · have := C i hi 1 (by omega)
    simpa [encT, hi] using this
  · unfold sortWorldK
    have e : (grow (putRowK encT 2 (Sort.ahead w n) g 0 l'.toArray) os).heap[g]? = (putRowK encT 2 (Sort.ahead w n) g 0 l'.toArray).heap[g]? := heap_grow_old _ _ (by simpa [putRowK, Sort.ahead] using hg)
    rw [World.frozen?_of_block (a := ⟨g, j, none⟩) e]
    unfold putRowK
    rw [frozen?_putRow]
    exact h.free j
theorem withinT {w : World} {g n : Nat} {l' : List Tok} {os : Array Obj} : Within g (g + 1) w (sortWorldK encT 2 w g 0 n l'.toArray os) := by
  refine ⟨rfl, rfl, rfl, by simp [sortWorldK, putRowK, Sort.ahead], fun k hk ha => ?_⟩
  unfold sortWorldK
  rw [heap_grow_old _ _ (by simpa [putRowK, Sort.ahead] using hk)]
  have : g ≠ k := by omega
  simp [putRowK, putRow, mapBlock, Sort.ahead, Array.getElem?_modify, this]
set_option maxHeartbeats 1000000 in
theorem sortTok (g cap : Nat) (l : List Tok) (w : World) (hl : l.length ≤ 1000) (h : Own w g l) (hg : g < w.heap.size) :
    Calls Tryd.prog 54 #[.slice (some ⟨g, 0, none⟩) l.length cap, .func (.func 46) #[] #[]] w fun e w' => e = .returned (.tuple #[]) ∧ Own w' g (tsort l) ∧ Within g (g + 1) w w' := by
  have eg : ∀ args w, (callFunc 46 args).run Tryd.prog w = .ok (.enter 46 args) w := enters_of Tryd.func46 (by kernel_rfl) rfl
  have hcon := AnyQ.slices_SortFunc_total sortLaid 2 Tryd.isAgg71 Tryd.sizeOf71 encT (fun _ => rfl) (fun x v hv => by simp [encT] at hv; rcases hv with rfl | rfl <;> rfl) ordT (by rw [ltOf_tlt]; exact swoT) 46 #[] g 0 cap l.toArray w eg (cmpT g 0 _ w) (holdsT h) hg (by simp; omega) (by rw [ltOf_tlt]; exact totT)
  have hcon' : Calls Tryd.prog 54 #[.slice (some ⟨g, 0, none⟩) l.length cap, .func (.func 46) #[] #[]] w _ := hcon
  refine hcon'.mono fun e w' he => ?_
  obtain ⟨he, n, os, hw⟩ := he
  rw [ltOf_tlt] at hw
  have hs : (l.mergeSort fun x y => !tlt y x) = tsort l := tsort_merge l
  have hw2 : w' = sortWorldK encT 2 w g 0 n (tsort l).toArray os := by rw [hw]; simp only [hs]
  rw [hw2]
  exact ⟨he, ownT h hg (tsort_length l), withinT⟩
end Go.Proofs.YteibkoaepgdmlaaDoor.Rg
