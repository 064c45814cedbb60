/- Contract of slices.SortFunc at tokens under impl.tokenOrder: the row holds the tokens sorted. Condition: at most 1000 tokens. -/
import Derived.Test.YteibkoaepgdmlaaDoorTokOrd
import Derived.Test.YteibkoaepgdmlaaDoorFrame2
import Derived.Shelf.SlSortCmp.NoneTotal
import Derived.Ground.SlsfProg
import Derived.Shelf.SlGeneric
set_option linter.unusedSimpArgs false
set_option linter.unusedVariables false
namespace Go.Proofs.YteibkoaepgdmlaaDoor.Rg
open Go.RowKit Go.Proofs.YteibkoaepgdmlaaDoor.Mk Go.Proofs.YteibkoaepgdmlaaDoor.Rw Go.Shelf Go.Sort
def sortLaid_ren : Go.Shelf.Ren := ⟨fun | 6 => 54 | 15 => 78 | 14 => 77 | 28 => 95 | 29 => 96 | 20 => 87 | 21 => 88 | 22 => 89 | 23 => 90 | 24 => 91 | 25 => 92 | 26 => 93 | 27 => 94 | 46 => 101 | 47 => 102 | 48 => 103 | 49 => 104 | 50 => 105 | 57 => 110 | n => n, fun | 22 => 25 | 24 => 71 | 25 => 72 | 3 => 3 | 39 => 91 | 0 => 0 | 53 => 83 | 55 => 88 | 4 => 4 | 46 => 109 | 45 => 108 | 50 => 68 | 5 => 5 | 9 => 9 | 66 => 121 | 70 => 125 | 76 => 132 | 77 => 133 | n => n, fun | n => n⟩
theorem sortLaid : Go.Proofs.SlLaysF0.n6 Tryd.prog sortLaid_ren :=
  { mixed := by kernel_rfl,
    f6 := ⟨Tryd.f54.name, by decide, Tryd.func54.trans (congrArg some (by kernel_rfl))⟩,
    f14 := ⟨Tryd.f77.name, by decide, Tryd.func77.trans (congrArg some (by kernel_rfl))⟩,
    f15 := Tryd.func78.trans (congrArg some (by kernel_rfl)),
    f20 := ⟨Tryd.f87.name, by decide, Tryd.func87.trans (congrArg some (by kernel_rfl))⟩,
    f21 := ⟨Tryd.f88.name, by decide, Tryd.func88.trans (congrArg some (by kernel_rfl))⟩,
    f22 := ⟨Tryd.f89.name, by decide, Tryd.func89.trans (congrArg some (by kernel_rfl))⟩,
    f23 := ⟨Tryd.f90.name, by decide, Tryd.func90.trans (congrArg some (by kernel_rfl))⟩,
    f24 := ⟨Tryd.f91.name, by decide, Tryd.func91.trans (congrArg some (by kernel_rfl))⟩,
    f25 := ⟨Tryd.f92.name, by decide, Tryd.func92.trans (congrArg some (by kernel_rfl))⟩,
    f26 := ⟨Tryd.f93.name, by decide, Tryd.func93.trans (congrArg some (by kernel_rfl))⟩,
    f27 := ⟨Tryd.f94.name, by decide, Tryd.func94.trans (congrArg some (by kernel_rfl))⟩,
    f28 := Tryd.func95.trans (congrArg some (by kernel_rfl)),
    f29 := Tryd.func96.trans (congrArg some (by kernel_rfl)),
    f46 := ⟨Tryd.f101.name, by decide, Tryd.func101.trans (congrArg some (by kernel_rfl))⟩,
    f47 := Tryd.func102.trans (congrArg some (by kernel_rfl)),
    f48 := Tryd.func103.trans (congrArg some (by kernel_rfl)),
    f49 := ⟨Tryd.f104.name, by decide, Tryd.func104.trans (congrArg some (by kernel_rfl))⟩,
    f50 := ⟨Tryd.f105.name, by decide, Tryd.func105.trans (congrArg some (by kernel_rfl))⟩,
    f57 := ⟨Tryd.f110.name, by decide, Tryd.func110.trans (congrArg some (by kernel_rfl))⟩,
    t0 := Tryd.underlying0,
    a0 := Tryd.isAgg0,
    z0 := Tryd.sizeOf0,
    v0 := Tryd.zeroValue0,
    t3 := Tryd.underlying3,
    a3 := Tryd.isAgg3,
    z3 := Tryd.sizeOf3,
    v3 := Tryd.zeroValue3,
    t4 := Tryd.underlying4,
    a4 := Tryd.isAgg4,
    z4 := Tryd.sizeOf4,
    v4 := Tryd.zeroValue4,
    t5 := Tryd.underlying5,
    a5 := Tryd.isAgg5,
    z5 := Tryd.sizeOf5,
    v5 := Tryd.zeroValue5,
    t9 := Tryd.underlying9,
    a9 := Tryd.isAgg9,
    z9 := Tryd.sizeOf9,
    v9 := Tryd.zeroValue9,
    t22 := Tryd.underlying25,
    a22 := Tryd.isAgg25,
    z22 := Tryd.sizeOf25,
    v22 := Tryd.zeroValue25,
    t25 := Tryd.underlying72,
    a25 := Tryd.isAgg72,
    z25 := Tryd.sizeOf72,
    v25 := Tryd.zeroValue72,
    t39 := Tryd.underlying91,
    a39 := Tryd.isAgg91,
    z39 := Tryd.sizeOf91,
    v39 := Tryd.zeroValue91,
    t45 := Tryd.underlying108,
    a45 := Tryd.isAgg108,
    z45 := Tryd.sizeOf108,
    v45 := Tryd.zeroValue108,
    t46 := Tryd.underlying109,
    a46 := Tryd.isAgg109,
    z46 := Tryd.sizeOf109,
    v46 := Tryd.zeroValue109,
    t50 := Tryd.underlying68,
    a50 := Tryd.isAgg68,
    z50 := Tryd.sizeOf68,
    v50 := Tryd.zeroValue68,
    t53 := Tryd.underlying83,
    a53 := Tryd.isAgg83,
    z53 := Tryd.sizeOf83,
    v53 := Tryd.zeroValue83,
    t55 := Tryd.underlying88,
    a55 := Tryd.isAgg88,
    z55 := Tryd.sizeOf88,
    v55 := Tryd.zeroValue88,
    t66 := Tryd.underlying121,
    a66 := Tryd.isAgg121,
    z66 := Tryd.sizeOf121,
    v66 := Tryd.zeroValue121,
    t70 := Tryd.underlying125,
    a70 := Tryd.isAgg125,
    z70 := Tryd.sizeOf125,
    v70 := Tryd.zeroValue125,
    t76 := Tryd.underlying132,
    a76 := Tryd.isAgg132,
    z76 := Tryd.sizeOf132,
    v76 := Tryd.zeroValue132,
    t77 := Tryd.underlying133,
    a77 := Tryd.isAgg133,
    z77 := Tryd.sizeOf133,
    v77 := Tryd.zeroValue133 }


def encT (x : Tok) : List Value := [.int .i64 x.1, .int .i64 x.2]
theorem ltOf_tlt : ltOf ordT = tlt := by
  funext x y
  exact ordT_dec x y
theorem swoT : SWO tlt where
  irrefl x := by rw [tlt_no]; omega
  trans x y z h1 h2 := by rw [tlt_iff] at *; omega
  ntrans x y z h1 h2 := by rw [tlt_no] at *; omega
theorem totT (x y : Tok) (h : tlt x y = false) (h' : tlt y x = false) : x = y := by
  rw [tlt_no] at *
  obtain ⟨a, b⟩ := x
  obtain ⟨c, d⟩ := y
  simp only at *
  have e1 : a = c := by omega
  have e2 : b = d := by omega
  rw [e1, e2]
theorem cmpT (blk off size : Nat) (w : World) : CmpLays Tryd.prog 46 #[] encT 2 ordT blk off size w :=
  fun _ _ _ _ x y => (tokenOrder x y _).mono fun _ _ h => ⟨h.1, grown_of h.2.1 h.2.2⟩
theorem holdsT {w : World} {g : Nat} {l : List Tok} (h : Own w g l) : HoldsK encT 2 w g 0 l.toArray := by
  intro j hj
  rw [size_flatK] at hj
  rw [get_flatK _ _ _ _ hj]
  have hj2 : j / 2 < l.length := by simp at hj; omega
  have e : l.toArray[j / 2]! = l[j / 2] := by simp [hj2]
  rw [e, Nat.zero_add]
  have hm : j % 2 = 0 ∨ j % 2 = 1 := by omega
  rcases hm with c | c
  · rw [c]
    have := h.cell0 (j / 2) hj2
    rw [show j / 2 * 2 = j by omega] at this
    exact ⟨this, h.free j⟩
  · rw [c]
    have := h.cell1 (j / 2) hj2
    rw [show j / 2 * 2 + 1 = j by omega] at this
    exact ⟨this, h.free j⟩
theorem ownT {w : World} {g n : Nat} {l l' : List Tok} {os : Array Obj} (h : Own w g l) (hg : g < w.heap.size) (hl : l'.length = l.length) : Own (sortWorldK encT 2 w g 0 n l'.toArray os) g l' := by
  have H := holdsK_sortWorldK_c encT 2 w g 0 l.toArray l'.toArray n os (holdsT h) hg (by simpa using hl)
  have C := fun i (hi : i < l'.length) c (hc : c < 2) => (H.cell (i := i) (c := c) (by simpa using hi) hc).1
  refine ⟨fun i hi => ?_, fun i hi => ?_, fun j => ?_⟩
  · have := C i hi 0 (by omega)
    simpa [encT, hi] using this
  · have := C i hi 1 (by omega)
    simpa [encT, hi] using this
  · unfold sortWorldK
    have e : (grow (putRowK encT 2 (Sort.ahead w n) g 0 l'.toArray) os).heap[g]? = (putRowK encT 2 (Sort.ahead w n) g 0 l'.toArray).heap[g]? := heap_grow_old _ _ (by simpa [putRowK, Sort.ahead] using hg)
    rw [World.frozen?_of_block (a := ⟨g, j, none⟩) e]
    unfold putRowK
    rw [frozen?_putRow]
    exact h.free j
theorem withinT {w : World} {g n : Nat} {l' : List Tok} {os : Array Obj} : Within g (g + 1) w (sortWorldK encT 2 w g 0 n l'.toArray os) := by
  refine ⟨rfl, rfl, rfl, by simp [sortWorldK, putRowK, Sort.ahead], fun k hk ha => ?_⟩
  unfold sortWorldK
  rw [heap_grow_old _ _ (by simpa [putRowK, Sort.ahead] using hk)]
  have : g ≠ k := by omega
  simp [putRowK, putRow, mapBlock, Sort.ahead, Array.getElem?_modify, this]
set_option maxHeartbeats 1000000 in
theorem sortTok (g cap : Nat) (l : List Tok) (w : World) (hl : l.length ≤ 1000) (h : Own w g l) (hg : g < w.heap.size) :
    Calls Tryd.prog 54 #[.slice (some ⟨g, 0, none⟩) l.length cap, .func (.func 46) #[] #[]] w fun e w' => e = .returned (.tuple #[]) ∧ Own w' g (tsort l) ∧ Within g (g + 1) w w' := by
  have eg : ∀ args w, (callFunc 46 args).run Tryd.prog w = .ok (.enter 46 args) w := enters_of Tryd.func46 (by kernel_rfl) rfl
  have hcon := AnyQ.slices_SortFunc_total sortLaid 2 Tryd.isAgg71 Tryd.sizeOf71 encT (fun _ => rfl) (fun x v hv => by simp [encT] at hv; rcases hv with rfl | rfl <;> rfl) ordT (by rw [ltOf_tlt]; exact swoT) 46 #[] g 0 cap l.toArray w eg (cmpT g 0 _ w) (holdsT h) hg (by simp; omega) (by rw [ltOf_tlt]; exact totT)
  have hcon' : Calls Tryd.prog 54 #[.slice (some ⟨g, 0, none⟩) l.length cap, .func (.func 46) #[] #[]] w _ := hcon
  refine hcon'.mono fun e w' he => ?_
  obtain ⟨he, n, os, hw⟩ := he
  rw [ltOf_tlt] at hw
  have hs : (l.mergeSort fun x y => !tlt y x) = tsort l := tsort_merge l
  have hw2 : w' = sortWorldK encT 2 w g 0 n (tsort l).toArray os := by rw [hw]; simp only [hs]
  rw [hw2]
  exact ⟨he, ownT h hg (tsort_length l), withinT⟩
end Go.Proofs.YteibkoaepgdmlaaDoor.Rg
