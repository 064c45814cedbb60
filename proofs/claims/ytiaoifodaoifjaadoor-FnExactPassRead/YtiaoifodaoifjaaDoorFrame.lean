/- What is kept from world to world: the world in which all began, slices of marks, variables of two cells. No condition. -/
import Derived.Test.YtiaoifodaoifjaaDoorMarkG
set_option linter.unusedSimpArgs false
set_option linter.unusedVariables false
namespace Go.Proofs.YtiaoifodaoifjaaDoor.Mk
open Go.RowKit

/-- the world in which the law began -/
def Base (w0 w : World) : Prop := Below w0.heap.size w0 w
theorem Base.below {w0 w w' : World} (h : Base w0 w) (hb : Below w.heap.size w w') : Base w0 w' := Below.trans h (hb.mono (Below.size h))
theorem Base.within {w0 w w' : World} {lo hi : Nat} (h : Base w0 w) (hw : Within lo hi w w') (hl : w0.heap.size ≤ lo) : Base w0 w' := Below.trans h (hw.below hl (Below.size h))
theorem Base.size {w0 w : World} (h : Base w0 w) : w0.heap.size ≤ w.heap.size := Below.size h
/-- a slice of marks of the law's own -/
def OwnI (w : World) (lo hi : Nat) (a : Option Addr) (l : List (Int × Int)) : Prop := OwnIn w lo hi a l ∧ hi ≤ w.heap.size
theorem OwnI.below {w w' : World} {lo hi : Nat} {a : Option Addr} {l : List (Int × Int)} (h : OwnI w lo hi a l) (hb : Below w.heap.size w w') : OwnI w' lo hi a l :=
  ⟨h.1.same (Same.of_below hb h.2), Nat.le_trans h.2 hb.size⟩
theorem OwnI.within {w w' : World} {lo hi lo' hi' : Nat} {a : Option Addr} {l : List (Int × Int)} (h : OwnI w lo hi a l) (hw : Within lo' hi' w w') (ha : hi ≤ lo' ∨ hi' ≤ lo) : OwnI w' lo hi a l :=
  ⟨h.1.same (hw.same h.2 (by omega)), Nat.le_trans h.2 hw.size⟩
theorem OwnI.at_ {w : World} {lo hi : Nat} {a : Option Addr} {l : List (Int × Int)} (h : OwnI w lo hi a l) : MarksAt w a l := h.1.at_
/-- marks that came in -/
def InAt (w0 w : World) (a : Option Addr) (l : List (Int × Int)) : Prop := MarksBelow w w0.heap.size a l ∧ w0.heap.size ≤ w.heap.size
theorem InAt.of {w : World} {a : Option Addr} {l : List (Int × Int)} (h : MarksAt w a l) : InAt w w a l := ⟨h.below, Nat.le_refl _⟩
theorem MarksBelow.same {w w' : World} {B : Nat} {a : Option Addr} {l : List (Int × Int)} (h : MarksBelow w B a l) (hs : Same 0 B w w') : MarksBelow w' B a l := by
  rcases h with h | ⟨g, off, ha, hg, hc⟩
  · exact .inl h
  · have e := hs g (Nat.zero_le _) hg
    exact .inr ⟨g, off, ha, hg, fun i hi => ⟨(World.cell?_of_block (a := ⟨g, _, none⟩) e).trans (hc i hi).1, (World.cell?_of_block (a := ⟨g, _, none⟩) e).trans (hc i hi).2⟩⟩
theorem InAt.below {w0 w w' : World} {a : Option Addr} {l : List (Int × Int)} (h : InAt w0 w a l) (hb : Below w.heap.size w w') : InAt w0 w' a l :=
  ⟨h.1.same (Same.of_below hb h.2), Nat.le_trans h.2 hb.size⟩
theorem InAt.within {w0 w w' : World} {lo hi : Nat} {a : Option Addr} {l : List (Int × Int)} (h : InAt w0 w a l) (hw : Within lo hi w w') (hl : w0.heap.size ≤ lo) : InAt w0 w' a l :=
  ⟨h.1.same (hw.same h.2 (by omega)), Nat.le_trans h.2 hw.size⟩
theorem InAt.at_ {w0 w : World} {a : Option Addr} {l : List (Int × Int)} (h : InAt w0 w a l) : MarksAt w a l := by
  rcases h.1 with h | ⟨g, off, ha, _, hc⟩
  · exact .inl h
  · exact .inr ⟨g, off, ha, hc⟩
/-- a variable of two cells -/
structure Var2 (w : World) (g : Nat) (u v : Value) : Prop where
  c0 : w.cell? ⟨g, 0, none⟩ = some u
  c1 : w.cell? ⟨g, 1, none⟩ = some v
  lt : g < w.heap.size
theorem Var2.below {w w' : World} {g : Nat} {u v : Value} (h : Var2 w g u v) (hb : Below w.heap.size w w') : Var2 w' g u v :=
  ⟨(hb.cell (p := ⟨g, 0, none⟩) h.lt).trans h.c0, (hb.cell (p := ⟨g, 1, none⟩) h.lt).trans h.c1, Nat.lt_of_lt_of_le h.lt hb.size⟩
theorem Var2.within {w w' : World} {lo hi g : Nat} {u v : Value} (h : Var2 w g u v) (hw : Within lo hi w w') (ha : g < lo ∨ hi ≤ g) : Var2 w' g u v := by
  have e := hw.block g h.lt ha
  exact ⟨(World.cell?_of_block (a := ⟨g, 0, none⟩) e).trans h.c0, (World.cell?_of_block (a := ⟨g, 1, none⟩) e).trans h.c1, Nat.lt_of_lt_of_le h.lt hw.size⟩
theorem Var2.new (w : World) (u v : Value) (t : TypeId) : Var2 (w.alloc (.cells #[u, v] t)) w.heap.size u v :=
  ⟨by rw [World.cell?_alloc_mark]; rfl, by rw [World.cell?_alloc_mark]; rfl, by simp⟩
/-- a new variable of two cells, not yet stored into -/
structure New2 (w : World) (g : Nat) (u v : Value) : Prop where
  c0 : w.cell? ⟨g, 0, none⟩ = some u
  c1 : w.cell? ⟨g, 1, none⟩ = some v
  f0 : w.frozen? ⟨g, 0, none⟩ = false
  f1 : w.frozen? ⟨g, 1, none⟩ = false
  lt : g < w.heap.size
theorem New2.below {w w' : World} {g : Nat} {u v : Value} (h : New2 w g u v) (hb : Below w.heap.size w w') : New2 w' g u v :=
  ⟨(hb.cell (p := ⟨g, 0, none⟩) h.lt).trans h.c0, (hb.cell (p := ⟨g, 1, none⟩) h.lt).trans h.c1, (hb.frozen (p := ⟨g, 0, none⟩) h.lt).trans h.f0, (hb.frozen (p := ⟨g, 1, none⟩) h.lt).trans h.f1, Nat.lt_of_lt_of_le h.lt hb.size⟩
theorem New2.within {w w' : World} {lo hi g : Nat} {u v : Value} (h : New2 w g u v) (hw : Within lo hi w w') (ha : g < lo ∨ hi ≤ g) : New2 w' g u v := by
  have e := hw.block g h.lt ha
  exact ⟨(World.cell?_of_block (a := ⟨g, 0, none⟩) e).trans h.c0, (World.cell?_of_block (a := ⟨g, 1, none⟩) e).trans h.c1, (World.frozen?_of_block (a := ⟨g, 0, none⟩) e).trans h.f0, (World.frozen?_of_block (a := ⟨g, 1, none⟩) e).trans h.f1, Nat.lt_of_lt_of_le h.lt hw.size⟩
theorem New2.new (w : World) (u v : Value) (t : TypeId) : New2 (w.alloc (.cells #[u, v] t)) w.heap.size u v :=
  ⟨by rw [World.cell?_alloc_mark]; rfl, by rw [World.cell?_alloc_mark]; rfl, by rw [World.frozen?_alloc_mark]; simp, by rw [World.frozen?_alloc_mark]; simp, by simp⟩
theorem New2.store {w : World} {g : Nat} {u v : Value} (h : New2 w g u v) (x y : Value) : Var2 ((w.setCell ⟨g, 0, none⟩ x).setCell ⟨g, 1, none⟩ y) g x y := by
  refine ⟨?_, ?_, by simpa [World.setCell] using h.lt⟩
  · rw [World.cell?_setCell_other _ _ _ _ (ne_off (by omega)), World.cell?_setCell_same _ _ _ h.c0]
  · have c := h.c1
    rw [← World.cell?_setCell_other w (⟨g, 0, none⟩ : Addr) _ x (ne_off (by omega))] at c
    rw [World.cell?_setCell_same _ _ _ c]
/-- a variable of three cells -/
structure Var3 (w : World) (g : Nat) (u v x : Value) : Prop where
  c0 : w.cell? ⟨g, 0, none⟩ = some u
  c1 : w.cell? ⟨g, 1, none⟩ = some v
  c2 : w.cell? ⟨g, 2, none⟩ = some x
  lt : g < w.heap.size
theorem Var3.below {w w' : World} {g : Nat} {u v x : Value} (h : Var3 w g u v x) (hb : Below w.heap.size w w') : Var3 w' g u v x :=
  ⟨(hb.cell (p := ⟨g, 0, none⟩) h.lt).trans h.c0, (hb.cell (p := ⟨g, 1, none⟩) h.lt).trans h.c1, (hb.cell (p := ⟨g, 2, none⟩) h.lt).trans h.c2, Nat.lt_of_lt_of_le h.lt hb.size⟩
theorem Var3.within {w w' : World} {lo hi g : Nat} {u v x : Value} (h : Var3 w g u v x) (hw : Within lo hi w w') (ha : g < lo ∨ hi ≤ g) : Var3 w' g u v x := by
  have e := hw.block g h.lt ha
  exact ⟨(World.cell?_of_block (a := ⟨g, 0, none⟩) e).trans h.c0, (World.cell?_of_block (a := ⟨g, 1, none⟩) e).trans h.c1, (World.cell?_of_block (a := ⟨g, 2, none⟩) e).trans h.c2, Nat.lt_of_lt_of_le h.lt hw.size⟩
theorem Var3.new (w : World) (u v x : Value) (t : TypeId) : Var3 (w.alloc (.cells #[u, v, x] t)) w.heap.size u v x :=
  ⟨by rw [World.cell?_alloc_mark]; rfl, by rw [World.cell?_alloc_mark]; rfl, by rw [World.cell?_alloc_mark]; rfl, by simp⟩
structure New3 (w : World) (g : Nat) (u v x : Value) : Prop where
  c0 : w.cell? ⟨g, 0, none⟩ = some u
  c1 : w.cell? ⟨g, 1, none⟩ = some v
  c2 : w.cell? ⟨g, 2, none⟩ = some x
  f0 : w.frozen? ⟨g, 0, none⟩ = false
  f1 : w.frozen? ⟨g, 1, none⟩ = false
  f2 : w.frozen? ⟨g, 2, none⟩ = false
  lt : g < w.heap.size
theorem New3.below {w w' : World} {g : Nat} {u v x : Value} (h : New3 w g u v x) (hb : Below w.heap.size w w') : New3 w' g u v x :=
  ⟨(hb.cell (p := ⟨g, 0, none⟩) h.lt).trans h.c0, (hb.cell (p := ⟨g, 1, none⟩) h.lt).trans h.c1, (hb.cell (p := ⟨g, 2, none⟩) h.lt).trans h.c2,
    (hb.frozen (p := ⟨g, 0, none⟩) h.lt).trans h.f0, (hb.frozen (p := ⟨g, 1, none⟩) h.lt).trans h.f1, (hb.frozen (p := ⟨g, 2, none⟩) h.lt).trans h.f2, Nat.lt_of_lt_of_le h.lt hb.size⟩
theorem New3.new (w : World) (u v x : Value) (t : TypeId) : New3 (w.alloc (.cells #[u, v, x] t)) w.heap.size u v x :=
  ⟨by rw [World.cell?_alloc_mark]; rfl, by rw [World.cell?_alloc_mark]; rfl, by rw [World.cell?_alloc_mark]; rfl, by rw [World.frozen?_alloc_mark]; simp, by rw [World.frozen?_alloc_mark]; simp, by rw [World.frozen?_alloc_mark]; simp, by simp⟩
theorem New3.store {w : World} {g : Nat} {u v x : Value} (h : New3 w g u v x) (u' v' x' : Value) : Var3 (((w.setCell ⟨g, 0, none⟩ u').setCell ⟨g, 1, none⟩ v').setCell ⟨g, 2, none⟩ x') g u' v' x' := by
  have c1 := h.c1
  rw [← World.cell?_setCell_other w (⟨g, 0, none⟩ : Addr) _ u' (ne_off (by omega))] at c1
  have c2 := h.c2
  rw [← World.cell?_setCell_other w (⟨g, 0, none⟩ : Addr) _ u' (ne_off (by omega)), ← World.cell?_setCell_other _ (⟨g, 1, none⟩ : Addr) _ v' (ne_off (by omega))] at c2
  refine ⟨?_, ?_, ?_, by simpa [World.setCell] using h.lt⟩
  · rw [World.cell?_setCell_other _ _ _ _ (ne_off (by omega)), World.cell?_setCell_other _ _ _ _ (ne_off (by omega)), World.cell?_setCell_same _ _ _ h.c0]
  · rw [World.cell?_setCell_other _ _ _ _ (ne_off (by omega)), World.cell?_setCell_same _ _ _ c1]
  · rw [World.cell?_setCell_same _ _ _ c2]
theorem own_same {w w' : World} {B e size n : Nat} {v : Value} {xs : List Value} (h : w.ownsRow B e size v n xs) (hs : ∀ k, v.ownBlock = some k → w'.heap[k]? = w.heap[k]?) : w'.ownsRow B e size v n xs := by
  obtain ⟨h1, h2⟩ := h
  refine ⟨h1, ?_⟩
  rcases h2 with h2 | ⟨g, cap, cur, rfl, hg, hh, r⟩
  · exact .inl h2
  · exact .inr ⟨g, cap, cur, rfl, hg, (hs g rfl).trans hh, r⟩
theorem own_within {w w' : World} {B e size n lo hi : Nat} {v : Value} {xs : List Value} (h : w.ownsRow B e size v n xs) (hw : Within lo hi w w') (ha : hi ≤ B) : w'.ownsRow B e size v n xs :=
  own_same h fun k hk => by
    have := h.lt k hk
    exact hw.block k this.2 (by omega)
theorem own_below {w w' : World} {B e size n : Nat} {v : Value} {xs : List Value} (h : w.ownsRow B e size v n xs) (hb : Below w.heap.size w w') : w'.ownsRow B e size v n xs := by
  obtain ⟨h1, h2⟩ := h
  refine ⟨h1, ?_⟩
  rcases h2 with h2 | ⟨g, cap, cur, hv, hg, hh, r⟩
  · exact .inl h2
  · exact .inr ⟨g, cap, cur, hv, hg, (hb.block g (Array.getElem?_eq_some_iff.1 hh).1).trans hh, r⟩
theorem step_alloc (w : World) (o : Obj) : Below w.heap.size w (w.alloc o) := (Below.refl _ _).alloc (Nat.le_refl _) _
theorem step_drew (w : World) : Below w.heap.size w w.drew := (Below.refl _ _).drew

end Go.Proofs.YtiaoifodaoifjaaDoor.Mk
