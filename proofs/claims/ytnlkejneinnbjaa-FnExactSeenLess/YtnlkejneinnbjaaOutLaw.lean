/- Contracts of the laws' helpers on SeenOut: eqSeenOut, markSeenOut, heldSeenOut; what a law keeps while it goes on. Condition: at most 1048576 marks. -/
import Derived.Test.YtnlkejneinnbjaaMarkLaw
namespace Go.Proofs.Ytnlkejneinnbjaa.Mk
open Go.RowKit

/-- the world in which the law began -/
def Base (w0 w : World) : Prop := Below w0.heap.size w0 w
theorem Base.below {w0 w w' : World} (h : Base w0 w) (hb : Below w.heap.size w w') : Base w0 w' := Below.trans h (hb.mono (Below.size h))
theorem Base.within {w0 w w' : World} {lo hi : Nat} (h : Base w0 w) (hw : Within lo hi w w') (hl : w0.heap.size ≤ lo) : Base w0 w' := Below.trans h (hw.below hl (Below.size h))
theorem Base.size {w0 w : World} (h : Base w0 w) : w0.heap.size ≤ w.heap.size := Below.size h
/-- a slice of marks of the law's own -/
def OwnI (w : World) (lo hi : Nat) (a : Option Addr) (l : List (Int × Int)) : Prop := OwnIn w lo hi a l ∧ hi ≤ w.heap.size
theorem OwnI.below {w w' : World} {lo hi : Nat} {a : Option Addr} {l : List (Int × Int)} (h : OwnI w lo hi a l) (hb : Below w.heap.size w w') : OwnI w' lo hi a l :=
  ⟨h.1.same (Same.of_below hb h.2), Nat.le_trans h.2 hb.size⟩
theorem OwnI.within {w w' : World} {lo hi lo' hi' : Nat} {a : Option Addr} {l : List (Int × Int)} (h : OwnI w lo hi a l) (hw : Within lo' hi' w w') (ha : hi ≤ lo' ∨ hi' ≤ lo) : OwnI w' lo hi a l :=
  ⟨h.1.same (hw.same h.2 (by omega)), Nat.le_trans h.2 hw.size⟩
theorem OwnI.at_ {w : World} {lo hi : Nat} {a : Option Addr} {l : List (Int × Int)} (h : OwnI w lo hi a l) : MarksAt w a l := h.1.at_
/-- marks that came in -/
def InAt (w0 w : World) (a : Option Addr) (l : List (Int × Int)) : Prop := MarksBelow w w0.heap.size a l ∧ w0.heap.size ≤ w.heap.size
theorem InAt.of {w : World} {a : Option Addr} {l : List (Int × Int)} (h : MarksAt w a l) : InAt w w a l := ⟨h.below, Nat.le_refl _⟩
theorem MarksBelow.same {w w' : World} {B : Nat} {a : Option Addr} {l : List (Int × Int)} (h : MarksBelow w B a l) (hs : Same 0 B w w') : MarksBelow w' B a l := by
  rcases h with h | ⟨g, off, ha, hg, hc⟩
  · exact .inl h
  · have e := hs g (Nat.zero_le _) hg
    exact .inr ⟨g, off, ha, hg, fun i hi => ⟨(World.cell?_of_block (a := ⟨g, _, none⟩) e).trans (hc i hi).1, (World.cell?_of_block (a := ⟨g, _, none⟩) e).trans (hc i hi).2⟩⟩
theorem InAt.below {w0 w w' : World} {a : Option Addr} {l : List (Int × Int)} (h : InAt w0 w a l) (hb : Below w.heap.size w w') : InAt w0 w' a l :=
  ⟨h.1.same (Same.of_below hb h.2), Nat.le_trans h.2 hb.size⟩
theorem InAt.within {w0 w w' : World} {lo hi : Nat} {a : Option Addr} {l : List (Int × Int)} (h : InAt w0 w a l) (hw : Within lo hi w w') (hl : w0.heap.size ≤ lo) : InAt w0 w' a l :=
  ⟨h.1.same (hw.same h.2 (by omega)), Nat.le_trans h.2 hw.size⟩
theorem InAt.at_ {w0 w : World} {a : Option Addr} {l : List (Int × Int)} (h : InAt w0 w a l) : MarksAt w a l := by
  rcases h.1 with h | ⟨g, off, ha, _, hc⟩
  · exact .inl h
  · exact .inr ⟨g, off, ha, hc⟩
/-- a variable of two cells -/
structure Var2 (w : World) (g : Nat) (u v : Value) : Prop where
  c0 : w.cell? ⟨g, 0, none⟩ = some u
  c1 : w.cell? ⟨g, 1, none⟩ = some v
  lt : g < w.heap.size
theorem Var2.below {w w' : World} {g : Nat} {u v : Value} (h : Var2 w g u v) (hb : Below w.heap.size w w') : Var2 w' g u v :=
  ⟨(hb.cell (p := ⟨g, 0, none⟩) h.lt).trans h.c0, (hb.cell (p := ⟨g, 1, none⟩) h.lt).trans h.c1, Nat.lt_of_lt_of_le h.lt hb.size⟩
theorem Var2.within {w w' : World} {lo hi g : Nat} {u v : Value} (h : Var2 w g u v) (hw : Within lo hi w w') (ha : g < lo ∨ hi ≤ g) : Var2 w' g u v := by
  have e := hw.block g h.lt ha
  exact ⟨(World.cell?_of_block (a := ⟨g, 0, none⟩) e).trans h.c0, (World.cell?_of_block (a := ⟨g, 1, none⟩) e).trans h.c1, Nat.lt_of_lt_of_le h.lt hw.size⟩
theorem Var2.new (w : World) (u v : Value) (t : TypeId) : Var2 (w.alloc (.cells #[u, v] t)) w.heap.size u v :=
  ⟨by rw [World.cell?_alloc_mark]; rfl, by rw [World.cell?_alloc_mark]; rfl, by simp⟩
/-- a new variable of two cells, not yet stored into -/
structure New2 (w : World) (g : Nat) (u v : Value) : Prop where
  c0 : w.cell? ⟨g, 0, none⟩ = some u
  c1 : w.cell? ⟨g, 1, none⟩ = some v
  f0 : w.frozen? ⟨g, 0, none⟩ = false
  f1 : w.frozen? ⟨g, 1, none⟩ = false
  lt : g < w.heap.size
theorem New2.below {w w' : World} {g : Nat} {u v : Value} (h : New2 w g u v) (hb : Below w.heap.size w w') : New2 w' g u v :=
  ⟨(hb.cell (p := ⟨g, 0, none⟩) h.lt).trans h.c0, (hb.cell (p := ⟨g, 1, none⟩) h.lt).trans h.c1, (hb.frozen (p := ⟨g, 0, none⟩) h.lt).trans h.f0, (hb.frozen (p := ⟨g, 1, none⟩) h.lt).trans h.f1, Nat.lt_of_lt_of_le h.lt hb.size⟩
theorem New2.new (w : World) (u v : Value) (t : TypeId) : New2 (w.alloc (.cells #[u, v] t)) w.heap.size u v :=
  ⟨by rw [World.cell?_alloc_mark]; rfl, by rw [World.cell?_alloc_mark]; rfl, by rw [World.frozen?_alloc_mark]; simp, by rw [World.frozen?_alloc_mark]; simp, by simp⟩
theorem New2.store {w : World} {g : Nat} {u v : Value} (h : New2 w g u v) (x y : Value) : Var2 ((w.setCell ⟨g, 0, none⟩ x).setCell ⟨g, 1, none⟩ y) g x y := by
  refine ⟨?_, ?_, by simpa [World.setCell] using h.lt⟩
  · rw [World.cell?_setCell_other _ _ _ _ (ne_off (by omega)), World.cell?_setCell_same _ _ _ h.c0]
  · have c := h.c1
    rw [← World.cell?_setCell_other w (⟨g, 0, none⟩ : Addr) _ x (ne_off (by omega))] at c
    rw [World.cell?_setCell_same _ _ _ c]
theorem step_alloc (w : World) (o : Obj) : Below w.heap.size w (w.alloc o) := (Below.refl _ _).alloc (Nat.le_refl _) _
theorem step_drew (w : World) : Below w.heap.size w w.drew := (Below.refl _ _).drew

set_option maxRecDepth 100000 in
theorem eqSeenOut (a b : Option Addr) (cap cap' : Nat) (l : List (Int × Int)) (c : Int) (w : World) (hl : l.length ≤ maxLen) (h : MarksAt w a l) (h' : MarksAt w b l) :
    Calls Try.prog 42 #[.agg #[.slice a l.length cap, .int .i64 c], .agg #[.slice b l.length cap', .int .i64 c]] w fun e w' => e = .returned (.bool true) ∧ Below w.heap.size w w' := by
  have H := Lib.hid h
  have H' := Lib.hid h'
  clear h h'
  have hb0 := Lib.hid ((step_alloc w (.cells #[.slice a l.length cap, .int .i64 c] 32)).trans ((step_alloc (w.alloc (.cells #[.slice a l.length cap, .int .i64 c] 32)) (.cells #[.slice b l.length cap', .int .i64 c] 32)).mono (by simp)))
  go_enter Try.func42, Try.ntmps42
  go_wp2_with fail
  refine (eqMarkS a b cap cap' l _ hl (H.out.mono hb0.out) (H'.out.mono hb0.out)).mono ?_
  rintro e w1 ⟨rfl, hb⟩
  obtain ⟨hc, _⟩ := bcell hb
  have HB := Lib.hid (hb0.out.trans (hb.mono (by simp; omega)))
  clear hb
  go_wp2
  go_ret
  exact ⟨rfl, HB.out⟩
set_option maxRecDepth 100000 in
theorem markSeenOut (lo hi : Nat) (a : Option Addr) (cap : Nat) (l : List (Int × Int)) (c k : Int) (w : World) (hl : l.length ≤ 1048576) (hk0 : 0 ≤ k) (hk1 : k ≤ 1000000000) (h : OwnI w lo hi a l) :
    Calls Try.prog 43 #[.agg #[.slice a l.length cap, .int .i64 c], .int .i64 k] w (Marked w lo hi a k l.length) := by
  have H := Lib.hid h
  clear h
  go_enter Try.func43, Try.ntmps43
  go_wp2_with fail
  refine (markMarkS lo hi a cap l k _ hl hk0 hk1 (H.out.below (step_alloc w _)).1).mono ?_
  rintro e w1 ⟨rfl, ho, hw⟩
  have HO := Lib.hid ho
  have HW := Lib.hid hw
  clear ho hw
  go_wp2
  go_ret
  refine ⟨rfl, HO.out, ?_⟩
  have hz := HW.out.size
  exact ⟨HW.out.os, HW.out.tape, HW.out.output, by simp at hz; omega, fun j hj ho => (HW.out.block j (by simp; omega) ho).trans (Below.heap_alloc _ _ _ hj)⟩
set_option maxRecDepth 100000 in
theorem heldSeenOut (a : Option Addr) (cap n : Nat) (c k : Int) (w : World) (hl : n ≤ 1048576) (hk0 : 0 ≤ k) (hk1 : k ≤ 1000000000) (h : MarksAt w a (markL k n)) :
    Calls Try.prog 44 #[.agg #[.slice a n cap, .int .i64 c], .int .i64 k] w fun e w' => e = .returned (.int .i64 (k + 2 * (n : Int))) ∧ Below w.heap.size w w' := by
  have H := Lib.hid h
  clear h
  go_enter Try.func44, Try.ntmps44
  go_wp2_with (go_at_call 41; refine (heldMarkS a cap n k _ hl hk0 hk1 (H.out.mono (step_alloc w _))).mono ?_; rintro e w1 ⟨rfl, rfl⟩)
  go_ret
  exact ⟨rfl, step_alloc w _⟩
end Go.Proofs.Ytnlkejneinnbjaa.Mk
