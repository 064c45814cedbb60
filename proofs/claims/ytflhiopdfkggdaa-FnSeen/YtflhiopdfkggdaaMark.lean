/- Marks in memory: a slice of marks that reads as a list of pairs, kept while other blocks turn. No condition. -/
import Derived.Test.YtflhiopdfkggdaaRows
import Derived.Test.YtflhiopdfkggdaaMarkMath
import Derived.WalkKit
import Derived.ProofKit
import Derived.OpenShut
import Derived.Lib.Hide
import Derived.Deep.Light
import Derived.OwnWalk
import Derived.Maps.AppendAt
import Derived.Deep.AppendLies
set_option linter.unusedSimpArgs false
set_option linter.unusedVariables false
namespace Go.Proofs.Ytflhiopdfkggdaa.Mk
open Go.RowKit

theorem ret_bool {a b : Bool} (h : a = b) : Ending.returned (.bool a) = .returned (.bool b) := by rw [h]
theorem ret_i64 {a b : Int} (h : a = b) : Ending.returned (.int .i64 a) = .returned (.int .i64 b) := by rw [h]
theorem bcell {W w1 : World} (hb : Below W.heap.size W w1) : (∀ b o, b < W.heap.size → w1.cell? ⟨b, o, none⟩ = W.cell? ⟨b, o, none⟩) ∧ (∀ b o, b < W.heap.size → w1.frozen? ⟨b, o, none⟩ = W.frozen? ⟨b, o, none⟩) :=
  ⟨fun b o h => hb.cell (p := ⟨b, o, none⟩) h, fun b o h => hb.frozen (p := ⟨b, o, none⟩) h⟩
/-- the value of a mark -/
def mv (m : Int × Int) : Value := .agg #[.int .i64 m.1, .int .i64 m.2]
/-- the slice at a reads as the marks l -/
def MarksAt (w : World) (a : Option Addr) (l : List (Int × Int)) : Prop :=
  l = [] ∨ ∃ g off, a = some ⟨g, off, none⟩ ∧ ∀ i (h : i < l.length), w.cell? ⟨g, off + i * 2, none⟩ = some (.int .i64 l[i].1) ∧ w.cell? ⟨g, off + i * 2 + 1, none⟩ = some (.int .i64 l[i].2)
/-- .. and all that it reads lies below block B -/
def MarksBelow (w : World) (B : Nat) (a : Option Addr) (l : List (Int × Int)) : Prop :=
  l = [] ∨ ∃ g off, a = some ⟨g, off, none⟩ ∧ g < B ∧ ∀ i (h : i < l.length), w.cell? ⟨g, off + i * 2, none⟩ = some (.int .i64 l[i].1) ∧ w.cell? ⟨g, off + i * 2 + 1, none⟩ = some (.int .i64 l[i].2)
theorem MarksAt.below {w : World} {a : Option Addr} {l : List (Int × Int)} (h : MarksAt w a l) : MarksBelow w w.heap.size a l := by
  rcases h with h | ⟨g, off, ha, hc⟩
  · exact .inl h
  · by_cases hl : l = []
    · exact .inl hl
    · have h0 : 0 < l.length := List.length_pos_iff.2 hl
      exact .inr ⟨g, off, ha, by simpa using World.block_lt_of_cell? w _ (hc 0 h0).1, hc⟩
theorem MarksAt.mono {w w' : World} {a : Option Addr} {l : List (Int × Int)} (h : MarksAt w a l) (hb : Below w.heap.size w w') : MarksAt w' a l := by
  rcases h.below with h | ⟨g, off, ha, hg, hc⟩
  · exact .inl h
  · exact .inr ⟨g, off, ha, fun i hi => ⟨(hb.cell (p := ⟨g, _, none⟩) hg).trans (hc i hi).1, (hb.cell (p := ⟨g, _, none⟩) hg).trans (hc i hi).2⟩⟩
theorem MarksAt.mono' {w w' : World} {a : Option Addr} {l : List (Int × Int)} {B : Nat} (h : MarksAt w a l) (hw : w.heap.size ≤ B) (hb : Below B w w') : MarksAt w' a l := h.mono (hb.mono hw)
theorem MarksAt.drew {w : World} {a : Option Addr} {l : List (Int × Int)} (h : MarksAt w a l) : MarksAt w.drew a l := h
theorem MarksAt.nil (w : World) (a : Option Addr) : MarksAt w a [] := .inl rfl
/-- the cells of element k, for a walk -/
theorem MarksAt.cells {w : World} {a : Option Addr} {l : List (Int × Int)} (h : MarksAt w a l) {k : Nat} (hk : k < l.length) :
    ∃ g off, a = some ⟨g, off, none⟩ ∧ g < w.heap.size ∧ w.cell? ⟨g, off + k * 2, none⟩ = some (.int .i64 l[k].1) ∧ w.cell? ⟨g, off + k * 2 + 1, none⟩ = some (.int .i64 l[k].2) := by
  rcases h.below with rfl | ⟨g, off, ha, hg, hc⟩
  · cases hk
  · exact ⟨g, off, ha, hg, hc k hk⟩

/-- the blocks lo, .., hi - 1 are as they were -/
def Same (lo hi : Nat) (w w' : World) : Prop := ∀ b, lo ≤ b → b < hi → w'.heap[b]? = w.heap[b]?
theorem Same.of_below {B lo hi : Nat} {w w' : World} (h : Below B w w') (hh : hi ≤ B) : Same lo hi w w' := fun b _ h2 => h.block b (by omega)
/-- of what was there the blocks lo, .., hi - 1 alone may have turned -/
structure Within (lo hi : Nat) (w w' : World) : Prop where
  os : w'.os = w.os
  tape : w'.tape = w.tape
  output : w'.output = w.output
  size : w.heap.size ≤ w'.heap.size
  block : ∀ k, k < w.heap.size → k < lo ∨ hi ≤ k → w'.heap[k]? = w.heap[k]?
theorem Within.refl (lo hi : Nat) (w : World) : Within lo hi w w := ⟨rfl, rfl, rfl, Nat.le_refl _, fun _ _ _ => rfl⟩
theorem Within.trans {lo hi : Nat} {a b c : World} (h : Within lo hi a b) (k : Within lo hi b c) : Within lo hi a c :=
  ⟨k.os.trans h.os, k.tape.trans h.tape, k.output.trans h.output, Nat.le_trans h.size k.size, fun i hi ho => (k.block i (Nat.lt_of_lt_of_le hi h.size) ho).trans (h.block i hi ho)⟩
theorem Within.setCell {lo hi : Nat} {a w : World} (h : Within lo hi a w) {p : Addr} (h1 : lo ≤ p.block) (h2 : p.block < hi) (u : Value) : Within lo hi a (w.setCell p u) :=
  h.trans ⟨rfl, rfl, rfl, by simp [World.setCell], fun k _ hk => Below.heap_setCell _ _ _ _ (by omega)⟩
theorem Within.below {lo hi B : Nat} {w w' : World} (h : Within lo hi w w') (hB : B ≤ lo) (hs : B ≤ w.heap.size) : Below B w w' :=
  ⟨h.os, h.tape, h.output, h.size, fun k hk => h.block k (by omega) (by omega)⟩
theorem Within.same {lo hi lo' hi' : Nat} {w w' : World} (h : Within lo hi w w') (hs : hi' ≤ w.heap.size) (ha : hi' ≤ lo ∨ hi ≤ lo') : Same lo' hi' w w' :=
  fun b h1 h2 => h.block b (by omega) (by omega)

/-- block g holds the marks l, and may be written -/
structure Own (w : World) (g : Nat) (l : List (Int × Int)) : Prop where
  cell0 : ∀ i (h : i < l.length), w.cell? ⟨g, i * 2, none⟩ = some (.int .i64 l[i].1)
  cell1 : ∀ i (h : i < l.length), w.cell? ⟨g, i * 2 + 1, none⟩ = some (.int .i64 l[i].2)
  free : ∀ j, w.frozen? ⟨g, j, none⟩ = false
theorem Own.same {w w' : World} {g : Nat} {l : List (Int × Int)} (h : Own w g l) (hs : w'.heap[g]? = w.heap[g]?) : Own w' g l where
  cell0 := fun i hi => (World.cell?_of_block (a := ⟨g, i * 2, none⟩) hs).trans (h.cell0 i hi)
  cell1 := fun i hi => (World.cell?_of_block (a := ⟨g, i * 2 + 1, none⟩) hs).trans (h.cell1 i hi)
  free := fun j => (World.frozen?_of_block (a := ⟨g, j, none⟩) hs).trans (h.free j)
theorem ne_off {g a b : Nat} (h : a ≠ b) : (⟨g, a, none⟩ : Addr) ≠ ⟨g, b, none⟩ := fun e => h (congrArg Addr.off e)
theorem Own.set {w : World} {g : Nat} {l : List (Int × Int)} (h : Own w g l) (k : Nat) (hk : k < l.length) (x y : Int) :
    Own ((w.setCell ⟨g, k * 2, none⟩ (.int .i64 x)).setCell ⟨g, k * 2 + 1, none⟩ (.int .i64 y)) g (l.set k (x, y)) where
  cell0 := fun i hi => by
    have hi' : i < l.length := by simpa using hi
    rw [World.cell?_setCell_other _ _ _ _ (ne_off (by omega))]
    by_cases e : i = k
    · subst e; rw [World.cell?_setCell_same _ _ _ (h.cell0 i hi'), List.getElem_set_self]
    · rw [World.cell?_setCell_other _ _ _ _ (ne_off (by omega)), h.cell0 i hi', List.getElem_set_ne (fun hh => e hh.symm)]
  cell1 := fun i hi => by
    have hi' : i < l.length := by simpa using hi
    have c := h.cell1 i hi'
    rw [← World.cell?_setCell_other w (⟨g, k * 2, none⟩ : Addr) _ (.int .i64 x) (ne_off (by omega))] at c
    by_cases e : i = k
    · subst e; rw [World.cell?_setCell_same _ _ _ c, List.getElem_set_self]
    · rw [World.cell?_setCell_other _ _ _ _ (ne_off (by omega)), c, List.getElem_set_ne (fun hh => e hh.symm)]
  free := fun j => by rw [World.frozen?_setCell, World.frozen?_setCell]; exact h.free j
theorem Own.lt {w : World} {g : Nat} {l : List (Int × Int)} (h : Own w g l) (hl : 0 < l.length) : g < w.heap.size := by simpa using World.block_lt_of_cell? w _ (h.cell0 0 hl)
/-- a slice of marks of the call's own, in a block from lo on and below hi -/
def OwnIn (w : World) (lo hi : Nat) (a : Option Addr) (l : List (Int × Int)) : Prop := l = [] ∨ ∃ g, a = some ⟨g, 0, none⟩ ∧ lo ≤ g ∧ g < hi ∧ Own w g l
theorem OwnIn.same {w w' : World} {lo hi : Nat} {a : Option Addr} {l : List (Int × Int)} (h : OwnIn w lo hi a l) (hs : Same lo hi w w') : OwnIn w' lo hi a l := by
  rcases h with h | ⟨g, ha, h1, h2, ho⟩
  · exact .inl h
  · exact .inr ⟨g, ha, h1, h2, ho.same (hs g h1 h2)⟩
theorem OwnIn.at_ {w : World} {lo hi : Nat} {a : Option Addr} {l : List (Int × Int)} (h : OwnIn w lo hi a l) : MarksAt w a l := by
  rcases h with h | ⟨g, ha, h1, h2, ho⟩
  · exact .inl h
  · exact .inr ⟨g, 0, ha, fun i hi => by simpa using ⟨ho.cell0 i hi, ho.cell1 i hi⟩⟩
theorem OwnIn.wide {w : World} {lo hi lo' hi' : Nat} {a : Option Addr} {l : List (Int × Int)} (h : OwnIn w lo hi a l) (h1 : lo' ≤ lo) (h2 : hi ≤ hi') : OwnIn w lo' hi' a l := by
  rcases h with h | ⟨g, ha, h3, h4, ho⟩
  · exact .inl h
  · exact .inr ⟨g, ha, by omega, by omega, ho⟩
/-- what a call that makes a slice of marks leaves -/
def Gives (w : World) (l : List (Int × Int)) (e : Ending) (w' : World) : Prop :=
  ∃ a cap, e = .returned (.slice a l.length cap) ∧ OwnIn w' w.heap.size w'.heap.size a l ∧ Below w.heap.size w w'

theorem infoM : (Try.prog.info? 28).map (fun i => (i.zero, i.size, i.bytes)) = some (some (.agg #[.int .i64 0, .int .i64 0]), 2, 16) := by kernel_rfl
theorem made_get (n j : Nat) (hj : j < n * 2) : (madeCells #[Value.int .i64 0, Value.int .i64 0] (n * 2))[j]? = some (.int .i64 0) := by
  have h2 : j % 2 = 0 ∨ j % 2 = 1 := by omega
  rcases h2 with e | e <;> simp [madeCells, hj, e]
theorem Own.new (w : World) (n : Nat) : Own (w.alloc (.cells (madeCells #[.int .i64 0, .int .i64 0] (n * 2)) 28)) w.heap.size (List.replicate n (0, 0)) where
  cell0 := fun i hi => by
    have hi' : i < n := by simpa using hi
    rw [World.cell?_alloc_mark]
    simp [made_get n (i * 2) (by omega)]
  cell1 := fun i hi => by
    have hi' : i < n := by simpa using hi
    rw [World.cell?_alloc_mark]
    simp [made_get n (i * 2 + 1) (by omega)]
  free := fun j => by rw [World.frozen?_alloc_mark]; simp
theorem run_make_marks (n : Nat) (hn : n ≤ 1048576) (w : World) :
    (Instr.makeSlice 23 (.int .i64 (n : Int)) (.int .i64 (n : Int))).run Try.prog w = .ok (.slice (some ⟨w.heap.size, 0, none⟩) n n) (w.alloc (.cells (madeCells #[.int .i64 0, .int .i64 0] (n * 2)) 28)) := by
  obtain ⟨i0, hi, hz0, hz1, hz2⟩ := info_parts infoM
  have := run_make (P := Try.prog) w 23 28 i0 _ Try.underlying23 hi hz0 .i64 .i64 n n (by omega) (by omega) (by rw [hz2]; omega) (by omega)
  rw [hz1] at this
  simpa [Value.cells] using this
/-- the cells of marks -/
def flat (l : List (Int × Int)) : List Value := l.flatMap fun m => [.int .i64 m.1, .int .i64 m.2]
theorem flat_length (l : List (Int × Int)) : (flat l).length = l.length * 2 := by
  induction l with
  | nil => rfl
  | cons x r ih => show (_ :: _ :: flat r).length = _; simp [ih]; omega
theorem flat_snoc (l : List (Int × Int)) (m : Int × Int) : flat (l ++ [m]) = flat l ++ [.int .i64 m.1, .int .i64 m.2] := by simp [flat]
theorem flat_get : ∀ (l : List (Int × Int)) (i : Nat) (h : i < l.length), (flat l)[i * 2]? = some (.int .i64 l[i].1) ∧ (flat l)[i * 2 + 1]? = some (.int .i64 l[i].2)
  | x :: r, 0, _ => ⟨rfl, rfl⟩
  | x :: r, i + 1, h => by
    have := flat_get r i (by simpa using h)
    have e : (i + 1) * 2 = i * 2 + 1 + 1 := by omega
    rw [e]
    simpa [flat] using this
/-- a row that was appended to, as marks of the call's own -/
theorem own_row {w : World} {B n : Nat} {v : Value} {l : List (Int × Int)} (h : w.ownsRow B 28 2 v n (flat l)) : ∃ a cap, v = .slice a l.length cap ∧ OwnIn w B w.heap.size a l := by
  obtain ⟨hlen, hc⟩ := h
  have hn : n = l.length := by rw [flat_length] at hlen; omega
  subst hn
  rcases hc with ⟨rfl, h0⟩ | ⟨g, cap, cur, rfl, hg, hh, hn, hm, hs, ht⟩
  · exact ⟨none, 0, by rw [h0], .inl (List.length_eq_zero_iff.1 h0)⟩
  · refine ⟨_, _, rfl, .inr ⟨g, rfl, hg, (Array.getElem?_eq_some_iff.1 hh).1, ?_⟩⟩
    have get : ∀ j, j < l.length * 2 → cur[j]? = (flat l)[j]? := fun j hj => by
      rw [← ht, List.getElem?_take_of_lt hj]; simp
    exact {
      cell0 := fun i hi => by simp [World.cell?, hh, get (i * 2) (by omega), (flat_get l i hi).1]
      cell1 := fun i hi => by simp [World.cell?, hh, get (i * 2 + 1) (by omega), (flat_get l i hi).2]
      free := fun j => by simp [World.frozen?, hh] }
/-- a mark that was just laid in memory, appended to a row of the call's own -/
theorem wpList_append_mark (w0 : World) {ops : Array Oper} {rest : List Oper} {o : Oper} {a : Act} {Q : Exit → Act → World → Prop} (hg : o.guard = none) (s x : Operand)
    (hop : o.op = .call { callee := .builtin .append, args := #[s, x], argTypes := #[23, 23] }) (B : Nat) (v : Value) (l : List (Int × Int)) (m : Int × Int) (hs : a.eval s = v) (G : Nat) (hG : w0.heap.size = G)
    (hx : a.eval x = .slice (some ⟨G, 0, none⟩) 1 1) (hown : w0.ownsRow B 28 2 v l.length (flat l)) (hl : l.length ≤ 1000000) (hB : B ≤ w0.heap.size)
    (h : ∀ v' w', w'.ownsRow B 28 2 v' (l ++ [m]).length (flat (l ++ [m])) → Below B w0 w' → wpList Try.prog ops Q rest (a.put o.dst v') w') :
    wpList Try.prog ops Q (o :: rest) a (w0.alloc (.cells #[.int .i64 m.1, .int .i64 m.2] 28)) := by
  subst hG
  obtain ⟨i0, hi, hz0, hz1, hz2⟩ := info_parts infoM
  refine wpList_append_own _ hg s x 23 hop B 28 i0 _ 2 16 Try.underlying23 hi hz0 hz1 hz2 rfl (by decide) v l.length (flat l) hs (hown.alloc _) ⟨w0.heap.size, 0, none⟩ 1 1 [.int .i64 m.1, .int .i64 m.2] hx rfl
    (World.news_of_block (cs := #[.int .i64 m.1, .int .i64 m.2]) (heap_alloc_new w0 _)) (fun u hu => by simp at hu; rcases hu with rfl | rfl <;> rfl) (by unfold maxLen; omega) (by omega) (by simp; omega) (fun v' w' h1 h2 _ => h v' w' ?_ ?_)
  · rw [flat_snoc, List.length_append]; exact h1
  · exact ((Below.refl B w0).alloc hB _).grown h2 (by simp; omega) (fun k hk => (hown.lt k hk).1)
end Go.Proofs.Ytflhiopdfkggdaa.Mk
