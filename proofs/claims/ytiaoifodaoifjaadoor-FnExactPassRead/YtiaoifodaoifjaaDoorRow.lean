/- Rows of structs in memory: a slice whose elements take k cells each, read as a list; what is kept of it while other blocks turn; a row of the call's own. No condition. -/
import Derived.Test.YtiaoifodaoifjaaDoorFrame
set_option linter.unusedSimpArgs false
set_option linter.unusedVariables false
namespace Go.Proofs.YtiaoifodaoifjaaDoor.Rw
open Go.RowKit Go.Proofs.YtiaoifodaoifjaaDoor.Mk

variable {α : Type} {k : Nat} {enc : α → Nat → Value}

/-- the slice at a reads as the elements l, k cells each -/
def RowAt (k : Nat) (enc : α → Nat → Value) (w : World) (a : Option Addr) (l : List α) : Prop :=
  l = [] ∨ ∃ g off, a = some ⟨g, off, none⟩ ∧ ∀ i (h : i < l.length) j, j < k → w.cell? ⟨g, off + i * k + j, none⟩ = some (enc l[i] j)
/-- .. and all that it reads lies below block B -/
def RowBelow (k : Nat) (enc : α → Nat → Value) (w : World) (B : Nat) (a : Option Addr) (l : List α) : Prop :=
  l = [] ∨ ∃ g off, a = some ⟨g, off, none⟩ ∧ g < B ∧ ∀ i (h : i < l.length) j, j < k → w.cell? ⟨g, off + i * k + j, none⟩ = some (enc l[i] j)
theorem RowAt.below {w : World} {a : Option Addr} {l : List α} (hk : 0 < k) (h : RowAt k enc w a l) : RowBelow k enc w w.heap.size a l := by
  rcases h with h | ⟨g, off, ha, hc⟩
  · exact .inl h
  · by_cases hl : l = []
    · exact .inl hl
    · have h0 : 0 < l.length := List.length_pos_iff.2 hl
      exact .inr ⟨g, off, ha, by simpa using World.block_lt_of_cell? w _ (hc 0 h0 0 hk), hc⟩
theorem RowAt.mono {w w' : World} {a : Option Addr} {l : List α} (hk : 0 < k) (h : RowAt k enc w a l) (hb : Below w.heap.size w w') : RowAt k enc w' a l := by
  rcases h.below hk with h | ⟨g, off, ha, hg, hc⟩
  · exact .inl h
  · exact .inr ⟨g, off, ha, fun i hi j hj => (hb.cell (p := ⟨g, _, none⟩) hg).trans (hc i hi j hj)⟩
theorem RowAt.nil (w : World) (a : Option Addr) : RowAt k enc w a [] := .inl rfl
/-- the cells of element i -/
theorem RowAt.cells {w : World} {a : Option Addr} {l : List α} (hk : 0 < k) (h : RowAt k enc w a l) {i : Nat} (hi : i < l.length) :
    ∃ g off, a = some ⟨g, off, none⟩ ∧ g < w.heap.size ∧ ∀ j, j < k → w.cell? ⟨g, off + i * k + j, none⟩ = some (enc l[i] j) := by
  rcases h.below hk with rfl | ⟨g, off, ha, hg, hc⟩
  · cases hi
  · exact ⟨g, off, ha, hg, hc i hi⟩
/-- block g holds the elements l from its start on, and may be written -/
structure ROwn (k : Nat) (enc : α → Nat → Value) (w : World) (g : Nat) (l : List α) : Prop where
  cell : ∀ i (h : i < l.length) j, j < k → w.cell? ⟨g, i * k + j, none⟩ = some (enc l[i] j)
  free : ∀ j, w.frozen? ⟨g, j, none⟩ = false
theorem ROwn.same {w w' : World} {g : Nat} {l : List α} (h : ROwn k enc w g l) (hs : w'.heap[g]? = w.heap[g]?) : ROwn k enc w' g l where
  cell := fun i hi j hj => (World.cell?_of_block (a := ⟨g, i * k + j, none⟩) hs).trans (h.cell i hi j hj)
  free := fun j => (World.frozen?_of_block (a := ⟨g, j, none⟩) hs).trans (h.free j)
theorem ROwn.lt {w : World} {g : Nat} {l : List α} (hk : 0 < k) (h : ROwn k enc w g l) (hl : 0 < l.length) : g < w.heap.size := by simpa using World.block_lt_of_cell? w _ (h.cell 0 hl 0 hk)
/-- element idx turned, all else of the block as it was -/
theorem ROwn.put {w w' : World} {g : Nat} {l : List α} (h : ROwn k enc w g l) (idx : Nat) (x : α)
    (h1 : ∀ j, j < k → w'.cell? ⟨g, idx * k + j, none⟩ = some (enc x j)) (h2 : ∀ o, o < idx * k ∨ idx * k + k ≤ o → w'.cell? ⟨g, o, none⟩ = w.cell? ⟨g, o, none⟩) (h3 : ∀ j, w'.frozen? ⟨g, j, none⟩ = w.frozen? ⟨g, j, none⟩) :
    ROwn k enc w' g (l.set idx x) where
  cell := fun i hi j hj => by
    have hi' : i < l.length := by simpa using hi
    by_cases e : idx = i
    · subst e; rw [h1 j hj, List.getElem_set_self]
    · rw [h2 (i * k + j), h.cell i hi' j hj, List.getElem_set_ne e]
      rcases Nat.lt_or_gt_of_ne e with c | c
      · right
        have := Nat.mul_le_mul_right k (show idx + 1 ≤ i from c)
        rw [Nat.add_mul] at this; omega
      · left
        have := Nat.mul_le_mul_right k (show i + 1 ≤ idx from c)
        rw [Nat.add_mul] at this; omega
  free := fun j => (h3 j).trans (h.free j)
/-- a row of the call's own, in a block from lo on and below hi -/
def ROwnIn (k : Nat) (enc : α → Nat → Value) (w : World) (lo hi : Nat) (a : Option Addr) (l : List α) : Prop := l = [] ∨ ∃ g, a = some ⟨g, 0, none⟩ ∧ lo ≤ g ∧ g < hi ∧ ROwn k enc w g l
theorem ROwnIn.same {w w' : World} {lo hi : Nat} {a : Option Addr} {l : List α} (h : ROwnIn k enc w lo hi a l) (hs : Same lo hi w w') : ROwnIn k enc w' lo hi a l := by
  rcases h with h | ⟨g, ha, h1, h2, ho⟩
  · exact .inl h
  · exact .inr ⟨g, ha, h1, h2, ho.same (hs g h1 h2)⟩
theorem ROwnIn.at_ {w : World} {lo hi : Nat} {a : Option Addr} {l : List α} (h : ROwnIn k enc w lo hi a l) : RowAt k enc w a l := by
  rcases h with h | ⟨g, ha, h1, h2, ho⟩
  · exact .inl h
  · exact .inr ⟨g, 0, ha, fun i hi j hj => by simpa using ho.cell i hi j hj⟩
theorem ROwnIn.wide {w : World} {lo hi lo' hi' : Nat} {a : Option Addr} {l : List α} (h : ROwnIn k enc w lo hi a l) (h1 : lo' ≤ lo) (h2 : hi ≤ hi') : ROwnIn k enc w lo' hi' a l := by
  rcases h with h | ⟨g, ha, h3, h4, ho⟩
  · exact .inl h
  · exact .inr ⟨g, ha, by omega, by omega, ho⟩
/-- a row of the law's own -/
def ROwnI (k : Nat) (enc : α → Nat → Value) (w : World) (lo hi : Nat) (a : Option Addr) (l : List α) : Prop := ROwnIn k enc w lo hi a l ∧ hi ≤ w.heap.size
theorem ROwnI.below {w w' : World} {lo hi : Nat} {a : Option Addr} {l : List α} (h : ROwnI k enc w lo hi a l) (hb : Below w.heap.size w w') : ROwnI k enc w' lo hi a l :=
  ⟨h.1.same (Same.of_below hb h.2), Nat.le_trans h.2 hb.size⟩
theorem ROwnI.within {w w' : World} {lo hi lo' hi' : Nat} {a : Option Addr} {l : List α} (h : ROwnI k enc w lo hi a l) (hw : Within lo' hi' w w') (ha : hi ≤ lo' ∨ hi' ≤ lo) : ROwnI k enc w' lo hi a l :=
  ⟨h.1.same (hw.same h.2 (by omega)), Nat.le_trans h.2 hw.size⟩
theorem ROwnI.at_ {w : World} {lo hi : Nat} {a : Option Addr} {l : List α} (h : ROwnI k enc w lo hi a l) : RowAt k enc w a l := h.1.at_
/-- a row that came in -/
def RIn (k : Nat) (enc : α → Nat → Value) (w0 w : World) (a : Option Addr) (l : List α) : Prop := RowBelow k enc w w0.heap.size a l ∧ w0.heap.size ≤ w.heap.size
theorem RIn.of {w : World} {a : Option Addr} {l : List α} (hk : 0 < k) (h : RowAt k enc w a l) : RIn k enc w w a l := ⟨h.below hk, Nat.le_refl _⟩
theorem RowBelow.same {w w' : World} {B : Nat} {a : Option Addr} {l : List α} (h : RowBelow k enc w B a l) (hs : Same 0 B w w') : RowBelow k enc w' B a l := by
  rcases h with h | ⟨g, off, ha, hg, hc⟩
  · exact .inl h
  · have e := hs g (Nat.zero_le _) hg
    exact .inr ⟨g, off, ha, hg, fun i hi j hj => (World.cell?_of_block (a := ⟨g, _, none⟩) e).trans (hc i hi j hj)⟩
theorem RIn.below {w0 w w' : World} {a : Option Addr} {l : List α} (h : RIn k enc w0 w a l) (hb : Below w.heap.size w w') : RIn k enc w0 w' a l :=
  ⟨h.1.same (Same.of_below hb h.2), Nat.le_trans h.2 hb.size⟩
theorem RIn.within {w0 w w' : World} {lo hi : Nat} {a : Option Addr} {l : List α} (h : RIn k enc w0 w a l) (hw : Within lo hi w w') (hl : w0.heap.size ≤ lo) : RIn k enc w0 w' a l :=
  ⟨h.1.same (hw.same h.2 (by omega)), Nat.le_trans h.2 hw.size⟩
theorem RIn.at_ {w0 w : World} {a : Option Addr} {l : List α} (h : RIn k enc w0 w a l) : RowAt k enc w a l := by
  rcases h.1 with h | ⟨g, off, ha, _, hc⟩
  · exact .inl h
  · exact .inr ⟨g, off, ha, hc⟩
/-- the cells of elements, one behind the other -/
def flatE (k : Nat) (enc : α → Nat → Value) (l : List α) : List Value := l.flatMap fun x => (List.range k).map (enc x)
theorem flatE_length (l : List α) : (flatE k enc l).length = l.length * k := by
  induction l with
  | nil => simp [flatE]
  | cons x r ih =>
    show (((List.range k).map (enc x)) ++ flatE k enc r).length = _
    rw [List.length_append, ih, List.length_map, List.length_range, List.length_cons, Nat.add_mul]; omega
theorem flatE_append (l r : List α) : flatE k enc (l ++ r) = flatE k enc l ++ flatE k enc r := by simp [flatE]
theorem flatE_get : ∀ (l : List α) (i : Nat) (h : i < l.length) (j : Nat), j < k → (flatE k enc l)[i * k + j]? = some (enc l[i] j)
  | x :: r, 0, _, j, hj => by
    show (((List.range k).map (enc x)) ++ flatE k enc r)[0 * k + j]? = _
    rw [List.getElem?_append_left (by simp; first | exact hj | omega)]
    simp [hj]
  | x :: r, i + 1, h, j, hj => by
    have := flatE_get r i (by simpa using h) j hj
    show (((List.range k).map (enc x)) ++ flatE k enc r)[(i + 1) * k + j]? = _
    have e : (i + 1) * k + j = k + (i * k + j) := by rw [Nat.add_mul]; omega
    rw [e, List.getElem?_append_right (by simp)]
    simpa using this
/-- a row that was appended to, as a row of the call's own -/
theorem own_row {w : World} {B n e : Nat} {v : Value} {l : List α} (hk : 0 < k) (h : w.ownsRow B e k v n (flatE k enc l)) : ∃ a cap, v = .slice a l.length cap ∧ ROwnIn k enc w B w.heap.size a l := by
  obtain ⟨hlen, hc⟩ := h
  have hn : n = l.length := by
    rw [flatE_length] at hlen
    exact (Nat.eq_of_mul_eq_mul_right hk hlen).symm
  subst hn
  rcases hc with ⟨rfl, h0⟩ | ⟨g, cap, cur, rfl, hg, hh, hn, hm, hs, ht⟩
  · exact ⟨none, 0, by rw [h0], .inl (List.length_eq_zero_iff.1 h0)⟩
  · refine ⟨_, _, rfl, .inr ⟨g, rfl, hg, (Array.getElem?_eq_some_iff.1 hh).1, ?_⟩⟩
    have get : ∀ j, j < l.length * k → cur[j]? = (flatE k enc l)[j]? := fun j hj => by
      rw [← ht, List.getElem?_take_of_lt hj]; simp
    exact {
      cell := fun i hi j hj => by
        have hb : i * k + j < l.length * k := by
          have := Nat.mul_le_mul_right k (show i + 1 ≤ l.length from hi)
          rw [Nat.add_mul] at this; omega
        simp [World.cell?, hh, get _ hb, flatE_get l i hi j hj]
      free := fun j => by simp [World.frozen?, hh] }
/-- four cells stored one behind the other -/
theorem set4 {w : World} {g o : Nat} (v0 v1 v2 v3 : Value) (c : ∀ j, j < 4 → ∃ u, w.cell? ⟨g, o + j, none⟩ = some u) :
    let w' := (((w.setCell ⟨g, o, none⟩ v0).setCell ⟨g, o + 1, none⟩ v1).setCell ⟨g, o + 2, none⟩ v2).setCell ⟨g, o + 3, none⟩ v3
    (w'.cell? ⟨g, o, none⟩ = some v0 ∧ w'.cell? ⟨g, o + 1, none⟩ = some v1 ∧ w'.cell? ⟨g, o + 2, none⟩ = some v2 ∧ w'.cell? ⟨g, o + 3, none⟩ = some v3) ∧
    (∀ p, p < o ∨ o + 4 ≤ p → w'.cell? ⟨g, p, none⟩ = w.cell? ⟨g, p, none⟩) ∧ (∀ j, w'.frozen? ⟨g, j, none⟩ = w.frozen? ⟨g, j, none⟩) := by
  intro w'
  have other : ∀ (W : World) (p q : Nat) (v : Value), p ≠ q → (W.setCell ⟨g, p, none⟩ v).cell? ⟨g, q, none⟩ = W.cell? ⟨g, q, none⟩ := fun W p q v h => World.cell?_setCell_other _ _ _ _ (ne_off h)
  obtain ⟨u0, h0⟩ := c 0 (by omega)
  obtain ⟨u1, h1⟩ := c 1 (by omega)
  obtain ⟨u2, h2⟩ := c 2 (by omega)
  obtain ⟨u3, h3⟩ := c 3 (by omega)
  refine ⟨⟨?_, ?_, ?_, ?_⟩, fun p hp => ?_, fun j => ?_⟩
  · rw [other _ _ _ _ (by omega), other _ _ _ _ (by omega), other _ _ _ _ (by omega)]; exact World.cell?_setCell_same _ _ _ h0
  · rw [other _ _ _ _ (by omega), other _ _ _ _ (by omega)]; exact World.cell?_setCell_same _ _ _ ((other _ _ _ _ (by omega)).trans h1)
  · rw [other _ _ _ _ (by omega)]; exact World.cell?_setCell_same _ _ _ ((other _ _ _ _ (by omega)).trans ((other _ _ _ _ (by omega)).trans h2))
  · exact World.cell?_setCell_same _ _ _ ((other _ _ _ _ (by omega)).trans ((other _ _ _ _ (by omega)).trans ((other _ _ _ _ (by omega)).trans h3)))
  · rw [other _ _ _ _ (by omega), other _ _ _ _ (by omega), other _ _ _ _ (by omega), other _ _ _ _ (by omega)]
  · rw [World.frozen?_setCell, World.frozen?_setCell, World.frozen?_setCell, World.frozen?_setCell]
/-- a new block of n elements, all zero -/
theorem ROwn.new {z : α} {zs : Array Value} (hz : zs.size = k) (hzs : ∀ j, j < k → zs[j]? = some (enc z j)) (w : World) (n : Nat) (t : TypeId) :
    ROwn k enc (w.alloc (.cells (madeCells zs (n * k)) t)) w.heap.size (List.replicate n z) where
  cell := fun i hi j hj => by
    have hi' : i < n := by simpa using hi
    rw [World.cell?_alloc_mark]
    have hb : i * k + j < n * k := by
      have := Nat.mul_le_mul_right k (show i + 1 ≤ n from hi')
      rw [Nat.add_mul] at this; omega
    have hm : (i * k + j) % k = j := by rw [Nat.mul_comm, Nat.mul_add_mod, Nat.mod_eq_of_lt hj]
    have := hzs j hj
    simp [madeCells, hb, hz, hm, List.getElem_replicate]
    rw [Array.getElem!_eq_getD, Array.getD_eq_getD_getElem?, this]; rfl
  free := fun j => by rw [World.frozen?_alloc_mark]; simp

end Go.Proofs.YtiaoifodaoifjaaDoor.Rw
