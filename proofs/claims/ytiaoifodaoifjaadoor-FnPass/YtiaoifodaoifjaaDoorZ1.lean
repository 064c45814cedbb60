/- Parts of a law: Tk, MarkMath, MarkG, Frame, Row, Mark, Sib, SibMath, SeenI, JoinMath, NumMath, NumS, BytesMath, GetMath, ReadBack. Conditions: on sizes, as each says. -/
import Derived.Test.YtiaoifodaoifjaaDoorProg
import Derived.Deep.RegionHeld3
import Derived.WalkKit
import Derived.StillTailTactics
import Derived.Maps.RangeWalk
import Derived.Conc.WalkWords
import Derived.Lib.Hide
import Derived.Test.YtiaoifodaoifjaaDoorRows
import Derived.ProofKit
import Derived.OpenShut
import Derived.Deep.Light
import Derived.OwnWalk
import Derived.Maps.AppendAt
import Derived.Deep.AppendLies
import Derived.KernelRfl
import Derived.Laws.BitsAllLaws
set_option linter.unusedSimpArgs false
set_option linter.unusedVariables false
namespace Go.Proofs.YtiaoifodaoifjaaDoor
open Go.RowKit
theorem tk (i : Nat) {P : Program} {ops : Array Oper} {Q : Exit → Act → World → Prop} {md : Region.Mode} {S : World → Prop} {oi : Oper} {v : Value} {fuel : Nat} {listed : Array Bool} {a : Act} {w : World}
    (h : wpAnyH P md ops Q S fuel (listed.setIfInBounds i true) (a.put oi.dst v) w)
    (hi : ops[i]? = some oi := by rfl) (hs : Region.noSelect ops = true := by as_aux_lemma => kernel_rfl) (hf : Region.free md ops listed i = true := by as_aux_lemma => kernel_rfl) (hr : (Region.ready md ops listed).contains i = true := by as_aux_lemma => kernel_rfl)
    (hQ : ∀ c a w, Q (.panic c) (a.put oi.dst v) w → Q (.panic c) a w := by exact fun _ _ _ h => h)
    (hy : YieldsIf P ops S oi v a := by exact Or.inl ⟨by rfl, fun w hSw => by (try dsimp only at hSw); go_simp; (try with_reducible rfl)⟩) (hS : S w := by assumption) : wpAnyH P md ops Q S (fuel + 1) listed a w :=
  wpAnyH_take hi hs hf hr hQ hy hS h
theorem tu (i : Nat) {P : Program} {ops : Array Oper} {Q : Exit → Act → World → Prop} {md : Region.Mode} {S : World → Prop} {oi : Oper} {fuel : Nat} {listed : Array Bool} {a : Act} {w : World}
    (h : wpAnyH P md ops Q S fuel (listed.setIfInBounds i true) (a.put oi.dst undef) w)
    (hi : ops[i]? = some oi := by rfl) (hs : Region.noSelect ops = true := by as_aux_lemma => kernel_rfl) (hf : Region.free md ops listed i = true := by as_aux_lemma => kernel_rfl) (hr : (Region.ready md ops listed).contains i = true := by as_aux_lemma => kernel_rfl)
    (hQ : ∀ c a w, Q (.panic c) (a.put oi.dst undef) w → Q (.panic c) a w := by exact fun _ _ _ h => h)
    (hy : YieldsIf P ops S oi undef a := by exact Or.inr ⟨by rfl, rfl⟩) (hS : S w := by assumption) : wpAnyH P md ops Q S (fuel + 1) listed a w :=
  wpAnyH_take hi hs hf hr hQ hy hS h
theorem rd (i : Nat) {P : Program} {ops : Array Oper} {Q : Exit → Act → World → Prop} {md : Region.Mode} {S : World → Prop} {o : Oper} {fuel : Nat} {listed : Array Bool} {a : Act} {w : World}
    (h : ∀ K' : Act → World → Prop, Shut (∀ a w, S w → (S w → wpAnyH P md ops Q S fuel (listed.setIfInBounds i true) a w) → K' a w) → if Region.wanted o (yielded ops a.tmps) = true then Oper.wp P o a w K' Q else K' (a.put o.dst undef) w)
    (hr : Region.ready md ops listed = [i] := by as_aux_lemma => kernel_rfl) (ho : ops[i]? = some o := by rfl) : wpAnyH P md ops Q S (fuel + 1) listed a w :=
  wpAnyH_ready hr (by simp) (AllReadyH.cons ho h AllReadyH.nil)
theorem rx {P : Program} {ops : Array Oper} {Q : Exit → Act → World → Prop} {md : Region.Mode} {S : World → Prop} {fuel : Nat} {listed : Array Bool} {a : Act} {w : World}
    (h : Q .normal a w) (hr : Region.ready md ops listed = [] := by as_aux_lemma => kernel_rfl) : wpAnyH P md ops Q S fuel listed a w := wpAnyH_done hr h fuel
theorem j8 {a b c d e f g h z r : Prop} (x : a ∧ b ∧ c ∧ d ∧ e ∧ f ∧ g ∧ h ∧ z) (y : r) : a ∧ b ∧ c ∧ d ∧ e ∧ f ∧ g ∧ h ∧ r :=
  ⟨x.1, x.2.1, x.2.2.1, x.2.2.2.1, x.2.2.2.2.1, x.2.2.2.2.2.1, x.2.2.2.2.2.2.1, x.2.2.2.2.2.2.2.1, y⟩
theorem j2 {a b z : Prop} (x : a ∧ b ∧ z) : a ∧ b := ⟨x.1, x.2.1⟩
theorem jj {p : Prop} (h : p) : RowKit.Hid p := h
theorem n1 {α : Type} (l : List α) (i : Nat) (a : α) : l.toArray.setIfInBounds i a = (l.set i a).toArray := List.setIfInBounds_toArray l i a
theorem n2 {α : Type} {x : α} {xs : List α} {a : α} : (x :: xs).set 0 a = a :: xs := rfl
theorem n3 {α : Type} {x : α} {xs : List α} {i : Nat} {a : α} : (x :: xs).set (i + 1) a = x :: xs.set i a := rfl
theorem n4 {α : Type} {xs : List α} {i : Nat} (h : i < xs.toArray.size) : xs.toArray[i] = xs[i] := rfl
theorem n5 {α : Type} (a : α) (l : List α) (h : 0 < (a :: l).length) : (a :: l)[0] = a := rfl
theorem n6 {α : Type} (a : α) (l : List α) (i : Nat) (h : i + 1 < (a :: l).length) : (a :: l)[i + 1] = l[i]'(Nat.lt_of_succ_lt_succ h) := rfl
end Go.Proofs.YtiaoifodaoifjaaDoor
namespace Go.Proofs.YtiaoifodaoifjaaDoor.Mk
def dotB (m : Int × Int) : Bool := decide (1 ≤ m.1) && decide (m.1 ≤ 5) && decide (1 ≤ m.2) && decide (m.2 ≤ 1000000)
def okFrom : Int → List (Int × Int) → Bool
  | _, [] => true
  | last, m :: r => dotB m && decide (last < m.1) && okFrom m.1 r
def rightB (l : List (Int × Int)) : Bool := okFrom 0 l
theorem dotB_iff (m : Int × Int) : dotB m = true ↔ 1 ≤ m.1 ∧ m.1 ≤ 5 ∧ 1 ≤ m.2 ∧ m.2 ≤ 1000000 := by
  unfold dotB; simp; omega
theorem okFrom_cons {last : Int} {m : Int × Int} {r : List (Int × Int)} : okFrom last (m :: r) = true ↔ dotB m = true ∧ last < m.1 ∧ okFrom m.1 r = true := by
  show (dotB m && decide (last < m.1) && okFrom m.1 r) = true ↔ _
  simp [and_assoc]
theorem okFrom_len : ∀ (l : List (Int × Int)) (last : Int), 0 ≤ last → okFrom last l = true → l = [] ∨ last + l.length ≤ 5
  | [], _, _, _ => .inl rfl
  | m :: r, last, h0, h => by
    obtain ⟨hd, hl, hr⟩ := okFrom_cons.1 h
    have := (dotB_iff m).1 hd
    right
    rcases okFrom_len r m.1 (by omega) hr with rfl | h2
    · simp; omega
    · simp; omega
theorem right_len {l : List (Int × Int)} (h : rightB l = true) : l.length ≤ 5 := by
  rcases okFrom_len l 0 (by omega) h with rfl | h2
  · simp
  · omega
def before (l : List (Int × Int)) (k : Nat) : Int := if k = 0 then 0 else (l.getD (k - 1) (0, 0)).1
theorem drop_at (l : List (Int × Int)) (k : Nat) (h : k < l.length) : l.drop k = l[k] :: l.drop (k + 1) := List.drop_eq_getElem_cons h
theorem okFrom_step (l : List (Int × Int)) (k : Nat) (last : Int) (h : k < l.length) : okFrom last (l.drop k) = (dotB l[k] && decide (last < l[k].1) && okFrom l[k].1 (l.drop (k + 1))) := by
  rw [drop_at l k h]; rfl
theorem okFrom_end (l : List (Int × Int)) (k : Nat) (last : Int) (h : l.length ≤ k) : okFrom last (l.drop k) = true := by
  rw [List.drop_eq_nil_of_le h]; rfl
theorem right_dot {l : List (Int × Int)} (h : rightB l = true) : ∀ m ∈ l, dotB m = true := by
  have : ∀ (l : List (Int × Int)) (last : Int), okFrom last l = true → ∀ m ∈ l, dotB m = true := by
    intro l
    induction l with
    | nil => intro _ _ m hm; cases hm
    | cons x r ih =>
      intro last h m hm
      obtain ⟨hd, _, hr⟩ := okFrom_cons.1 h
      rcases List.mem_cons.1 hm with rfl | hm
      · exact hd
      · exact ih _ hr m hm
  exact this l 0 h
def ofL : List (Int × Int) → Int → Int
  | [], _ => 0
  | m :: r, n => if m.1 = n then m.2 else ofL r n
theorem ofL_step (l : List (Int × Int)) (k : Nat) (n : Int) (h : k < l.length) : ofL (l.drop k) n = if l[k].1 = n then l[k].2 else ofL (l.drop (k + 1)) n := by
  rw [drop_at l k h]; rfl
theorem ofL_end (l : List (Int × Int)) (k : Nat) (n : Int) (h : l.length ≤ k) : ofL (l.drop k) n = 0 := by
  rw [List.drop_eq_nil_of_le h]; rfl
def hasB (l : List (Int × Int)) (m : Int × Int) : Bool := rightB l && dotB m && decide (m.2 ≤ ofL l m.1)
def nil : Int → Option (Int × Int) := fun _ => none
def at_ (f : Int → Option (Int × Int)) (n : Int) : Int × Int := (f n).getD (0, 0)
open Go.RowKit
theorem ret_bool {a b : Bool} (h : a = b) : Ending.returned (.bool a) = .returned (.bool b) := by rw [h]
theorem ret_i64 {a b : Int} (h : a = b) : Ending.returned (.int .i64 a) = .returned (.int .i64 b) := by rw [h]
theorem bcell {W w1 : World} (hb : Below W.heap.size W w1) : (∀ b o, b < W.heap.size → w1.cell? ⟨b, o, none⟩ = W.cell? ⟨b, o, none⟩) ∧ (∀ b o, b < W.heap.size → w1.frozen? ⟨b, o, none⟩ = W.frozen? ⟨b, o, none⟩) :=
  ⟨fun b o h => hb.cell (p := ⟨b, o, none⟩) h, fun b o h => hb.frozen (p := ⟨b, o, none⟩) h⟩
def mv (m : Int × Int) : Value := .agg #[.int .i64 m.1, .int .i64 m.2]
def MarksAt (w : World) (a : Option Addr) (l : List (Int × Int)) : Prop :=
  l = [] ∨ ∃ g off, a = some ⟨g, off, none⟩ ∧ ∀ i (h : i < l.length), w.cell? ⟨g, off + i * 2, none⟩ = some (.int .i64 l[i].1) ∧ w.cell? ⟨g, off + i * 2 + 1, none⟩ = some (.int .i64 l[i].2)
def MarksBelow (w : World) (B : Nat) (a : Option Addr) (l : List (Int × Int)) : Prop :=
  l = [] ∨ ∃ g off, a = some ⟨g, off, none⟩ ∧ g < B ∧ ∀ i (h : i < l.length), w.cell? ⟨g, off + i * 2, none⟩ = some (.int .i64 l[i].1) ∧ w.cell? ⟨g, off + i * 2 + 1, none⟩ = some (.int .i64 l[i].2)
theorem MarksAt.below {w : World} {a : Option Addr} {l : List (Int × Int)} (h : MarksAt w a l) : MarksBelow w w.heap.size a l := by
  rcases h with h | ⟨g, off, ha, hc⟩
  · exact .inl h
  · by_cases hl : l = []
    · exact .inl hl
    · have h0 : 0 < l.length := List.length_pos_iff.2 hl
      exact .inr ⟨g, off, ha, by simpa using World.block_lt_of_cell? w _ (hc 0 h0).1, hc⟩
theorem MarksAt.mono {w w' : World} {a : Option Addr} {l : List (Int × Int)} (h : MarksAt w a l) (hb : Below w.heap.size w w') : MarksAt w' a l := by
  rcases h.below with h | ⟨g, off, ha, hg, hc⟩
  · exact .inl h
  · exact .inr ⟨g, off, ha, fun i hi => ⟨(hb.cell (p := ⟨g, _, none⟩) hg).trans (hc i hi).1, (hb.cell (p := ⟨g, _, none⟩) hg).trans (hc i hi).2⟩⟩
theorem MarksAt.drew {w : World} {a : Option Addr} {l : List (Int × Int)} (h : MarksAt w a l) : MarksAt w.drew a l := h
theorem MarksAt.nil (w : World) (a : Option Addr) : MarksAt w a [] := .inl rfl
theorem MarksAt.cells {w : World} {a : Option Addr} {l : List (Int × Int)} (h : MarksAt w a l) {k : Nat} (hk : k < l.length) :
    ∃ g off, a = some ⟨g, off, none⟩ ∧ g < w.heap.size ∧ w.cell? ⟨g, off + k * 2, none⟩ = some (.int .i64 l[k].1) ∧ w.cell? ⟨g, off + k * 2 + 1, none⟩ = some (.int .i64 l[k].2) := by
  rcases h.below with rfl | ⟨g, off, ha, hg, hc⟩
  · cases hk
  · exact ⟨g, off, ha, hg, hc k hk⟩
def Same (lo hi : Nat) (w w' : World) : Prop := ∀ b, lo ≤ b → b < hi → w'.heap[b]? = w.heap[b]?
theorem Same.of_below {B lo hi : Nat} {w w' : World} (h : Below B w w') (hh : hi ≤ B) : Same lo hi w w' := fun b _ h2 => h.block b (by omega)
structure Within (lo hi : Nat) (w w' : World) : Prop where
  os : w'.os = w.os
  tape : w'.tape = w.tape
  output : w'.output = w.output
  size : w.heap.size ≤ w'.heap.size
  block : ∀ k, k < w.heap.size → k < lo ∨ hi ≤ k → w'.heap[k]? = w.heap[k]?
theorem Within.refl (lo hi : Nat) (w : World) : Within lo hi w w := ⟨rfl, rfl, rfl, Nat.le_refl _, fun _ _ _ => rfl⟩
theorem Within.trans {lo hi : Nat} {a b c : World} (h : Within lo hi a b) (k : Within lo hi b c) : Within lo hi a c :=
  ⟨k.os.trans h.os, k.tape.trans h.tape, k.output.trans h.output, Nat.le_trans h.size k.size, fun i hi ho => (k.block i (Nat.lt_of_lt_of_le hi h.size) ho).trans (h.block i hi ho)⟩
theorem Within.setCell {lo hi : Nat} {a w : World} (h : Within lo hi a w) {p : Addr} (h1 : lo ≤ p.block) (h2 : p.block < hi) (u : Value) : Within lo hi a (w.setCell p u) :=
  h.trans ⟨rfl, rfl, rfl, by simp [World.setCell], fun k _ hk => Below.heap_setCell _ _ _ _ (by omega)⟩
theorem Within.below {lo hi B : Nat} {w w' : World} (h : Within lo hi w w') (hB : B ≤ lo) (hs : B ≤ w.heap.size) : Below B w w' :=
  ⟨h.os, h.tape, h.output, h.size, fun k hk => h.block k (by omega) (by omega)⟩
theorem Within.same {lo hi lo' hi' : Nat} {w w' : World} (h : Within lo hi w w') (hs : hi' ≤ w.heap.size) (ha : hi' ≤ lo ∨ hi ≤ lo') : Same lo' hi' w w' :=
  fun b h1 h2 => h.block b (by omega) (by omega)
structure Own (w : World) (g : Nat) (l : List (Int × Int)) : Prop where
  cell0 : ∀ i (h : i < l.length), w.cell? ⟨g, i * 2, none⟩ = some (.int .i64 l[i].1)
  cell1 : ∀ i (h : i < l.length), w.cell? ⟨g, i * 2 + 1, none⟩ = some (.int .i64 l[i].2)
  free : ∀ j, w.frozen? ⟨g, j, none⟩ = false
theorem Own.same {w w' : World} {g : Nat} {l : List (Int × Int)} (h : Own w g l) (hs : w'.heap[g]? = w.heap[g]?) : Own w' g l where
  cell0 := fun i hi => (World.cell?_of_block (a := ⟨g, i * 2, none⟩) hs).trans (h.cell0 i hi)
  cell1 := fun i hi => (World.cell?_of_block (a := ⟨g, i * 2 + 1, none⟩) hs).trans (h.cell1 i hi)
  free := fun j => (World.frozen?_of_block (a := ⟨g, j, none⟩) hs).trans (h.free j)
theorem ne_off {g a b : Nat} (h : a ≠ b) : (⟨g, a, none⟩ : Addr) ≠ ⟨g, b, none⟩ := fun e => h (congrArg Addr.off e)
theorem Own.set {w : World} {g : Nat} {l : List (Int × Int)} (h : Own w g l) (k : Nat) (hk : k < l.length) (x y : Int) :
    Own ((w.setCell ⟨g, k * 2, none⟩ (.int .i64 x)).setCell ⟨g, k * 2 + 1, none⟩ (.int .i64 y)) g (l.set k (x, y)) where
  cell0 := fun i hi => by
    have hi' : i < l.length := by simpa using hi
    rw [World.cell?_setCell_other _ _ _ _ (ne_off (by omega))]
    by_cases e : i = k
    · subst e; rw [World.cell?_setCell_same _ _ _ (h.cell0 i hi'), List.getElem_set_self]
    · rw [World.cell?_setCell_other _ _ _ _ (ne_off (by omega)), h.cell0 i hi', List.getElem_set_ne (fun hh => e hh.symm)]
  cell1 := fun i hi => by
    have hi' : i < l.length := by simpa using hi
    have c := h.cell1 i hi'
    rw [← World.cell?_setCell_other w (⟨g, k * 2, none⟩ : Addr) _ (.int .i64 x) (ne_off (by omega))] at c
    by_cases e : i = k
    · subst e; rw [World.cell?_setCell_same _ _ _ c, List.getElem_set_self]
    · rw [World.cell?_setCell_other _ _ _ _ (ne_off (by omega)), c, List.getElem_set_ne (fun hh => e hh.symm)]
  free := fun j => by rw [World.frozen?_setCell, World.frozen?_setCell]; exact h.free j
theorem Own.lt {w : World} {g : Nat} {l : List (Int × Int)} (h : Own w g l) (hl : 0 < l.length) : g < w.heap.size := by simpa using World.block_lt_of_cell? w _ (h.cell0 0 hl)
def OwnIn (w : World) (lo hi : Nat) (a : Option Addr) (l : List (Int × Int)) : Prop := l = [] ∨ ∃ g, a = some ⟨g, 0, none⟩ ∧ lo ≤ g ∧ g < hi ∧ Own w g l
theorem OwnIn.same {w w' : World} {lo hi : Nat} {a : Option Addr} {l : List (Int × Int)} (h : OwnIn w lo hi a l) (hs : Same lo hi w w') : OwnIn w' lo hi a l := by
  rcases h with h | ⟨g, ha, h1, h2, ho⟩
  · exact .inl h
  · exact .inr ⟨g, ha, h1, h2, ho.same (hs g h1 h2)⟩
theorem OwnIn.at_ {w : World} {lo hi : Nat} {a : Option Addr} {l : List (Int × Int)} (h : OwnIn w lo hi a l) : MarksAt w a l := by
  rcases h with h | ⟨g, ha, h1, h2, ho⟩
  · exact .inl h
  · exact .inr ⟨g, 0, ha, fun i hi => by simpa using ⟨ho.cell0 i hi, ho.cell1 i hi⟩⟩
theorem OwnIn.wide {w : World} {lo hi lo' hi' : Nat} {a : Option Addr} {l : List (Int × Int)} (h : OwnIn w lo hi a l) (h1 : lo' ≤ lo) (h2 : hi ≤ hi') : OwnIn w lo' hi' a l := by
  rcases h with h | ⟨g, ha, h3, h4, ho⟩
  · exact .inl h
  · exact .inr ⟨g, ha, by omega, by omega, ho⟩
theorem made_get (n j : Nat) (hj : j < n * 2) : (madeCells #[Value.int .i64 0, Value.int .i64 0] (n * 2))[j]? = some (.int .i64 0) := by
  have h2 : j % 2 = 0 ∨ j % 2 = 1 := by omega
  rcases h2 with e | e <;> simp [madeCells, hj, e]
def flat (l : List (Int × Int)) : List Value := l.flatMap fun m => [.int .i64 m.1, .int .i64 m.2]
theorem flat_length (l : List (Int × Int)) : (flat l).length = l.length * 2 := by
  induction l with
  | nil => rfl
  | cons x r ih => show (_ :: _ :: flat r).length = _; simp [ih]; omega
theorem flat_snoc (l : List (Int × Int)) (m : Int × Int) : flat (l ++ [m]) = flat l ++ [.int .i64 m.1, .int .i64 m.2] := by simp [flat]
theorem flat_get : ∀ (l : List (Int × Int)) (i : Nat) (h : i < l.length), (flat l)[i * 2]? = some (.int .i64 l[i].1) ∧ (flat l)[i * 2 + 1]? = some (.int .i64 l[i].2)
  | x :: r, 0, _ => ⟨rfl, rfl⟩
  | x :: r, i + 1, h => by
    have := flat_get r i (by simpa using h)
    have e : (i + 1) * 2 = i * 2 + 1 + 1 := by omega
    rw [e]
    simpa [flat] using this
open Go.RowKit
def Base (w0 w : World) : Prop := Below w0.heap.size w0 w
theorem Base.below {w0 w w' : World} (h : Base w0 w) (hb : Below w.heap.size w w') : Base w0 w' := Below.trans h (hb.mono (Below.size h))
theorem Base.within {w0 w w' : World} {lo hi : Nat} (h : Base w0 w) (hw : Within lo hi w w') (hl : w0.heap.size ≤ lo) : Base w0 w' := Below.trans h (hw.below hl (Below.size h))
theorem Base.size {w0 w : World} (h : Base w0 w) : w0.heap.size ≤ w.heap.size := Below.size h
def OwnI (w : World) (lo hi : Nat) (a : Option Addr) (l : List (Int × Int)) : Prop := OwnIn w lo hi a l ∧ hi ≤ w.heap.size
theorem OwnI.below {w w' : World} {lo hi : Nat} {a : Option Addr} {l : List (Int × Int)} (h : OwnI w lo hi a l) (hb : Below w.heap.size w w') : OwnI w' lo hi a l :=
  ⟨h.1.same (Same.of_below hb h.2), Nat.le_trans h.2 hb.size⟩
theorem OwnI.within {w w' : World} {lo hi lo' hi' : Nat} {a : Option Addr} {l : List (Int × Int)} (h : OwnI w lo hi a l) (hw : Within lo' hi' w w') (ha : hi ≤ lo' ∨ hi' ≤ lo) : OwnI w' lo hi a l :=
  ⟨h.1.same (hw.same h.2 (by omega)), Nat.le_trans h.2 hw.size⟩
theorem OwnI.at_ {w : World} {lo hi : Nat} {a : Option Addr} {l : List (Int × Int)} (h : OwnI w lo hi a l) : MarksAt w a l := h.1.at_
theorem MarksBelow.same {w w' : World} {B : Nat} {a : Option Addr} {l : List (Int × Int)} (h : MarksBelow w B a l) (hs : Same 0 B w w') : MarksBelow w' B a l := by
  rcases h with h | ⟨g, off, ha, hg, hc⟩
  · exact .inl h
  · have e := hs g (Nat.zero_le _) hg
    exact .inr ⟨g, off, ha, hg, fun i hi => ⟨(World.cell?_of_block (a := ⟨g, _, none⟩) e).trans (hc i hi).1, (World.cell?_of_block (a := ⟨g, _, none⟩) e).trans (hc i hi).2⟩⟩
structure Var2 (w : World) (g : Nat) (u v : Value) : Prop where
  c0 : w.cell? ⟨g, 0, none⟩ = some u
  c1 : w.cell? ⟨g, 1, none⟩ = some v
  lt : g < w.heap.size
theorem Var2.below {w w' : World} {g : Nat} {u v : Value} (h : Var2 w g u v) (hb : Below w.heap.size w w') : Var2 w' g u v :=
  ⟨(hb.cell (p := ⟨g, 0, none⟩) h.lt).trans h.c0, (hb.cell (p := ⟨g, 1, none⟩) h.lt).trans h.c1, Nat.lt_of_lt_of_le h.lt hb.size⟩
theorem Var2.within {w w' : World} {lo hi g : Nat} {u v : Value} (h : Var2 w g u v) (hw : Within lo hi w w') (ha : g < lo ∨ hi ≤ g) : Var2 w' g u v := by
  have e := hw.block g h.lt ha
  exact ⟨(World.cell?_of_block (a := ⟨g, 0, none⟩) e).trans h.c0, (World.cell?_of_block (a := ⟨g, 1, none⟩) e).trans h.c1, Nat.lt_of_lt_of_le h.lt hw.size⟩
theorem Var2.new (w : World) (u v : Value) (t : TypeId) : Var2 (w.alloc (.cells #[u, v] t)) w.heap.size u v :=
  ⟨by rw [World.cell?_alloc_mark]; rfl, by rw [World.cell?_alloc_mark]; rfl, by simp⟩
structure New2 (w : World) (g : Nat) (u v : Value) : Prop where
  c0 : w.cell? ⟨g, 0, none⟩ = some u
  c1 : w.cell? ⟨g, 1, none⟩ = some v
  f0 : w.frozen? ⟨g, 0, none⟩ = false
  f1 : w.frozen? ⟨g, 1, none⟩ = false
  lt : g < w.heap.size
theorem New2.below {w w' : World} {g : Nat} {u v : Value} (h : New2 w g u v) (hb : Below w.heap.size w w') : New2 w' g u v :=
  ⟨(hb.cell (p := ⟨g, 0, none⟩) h.lt).trans h.c0, (hb.cell (p := ⟨g, 1, none⟩) h.lt).trans h.c1, (hb.frozen (p := ⟨g, 0, none⟩) h.lt).trans h.f0, (hb.frozen (p := ⟨g, 1, none⟩) h.lt).trans h.f1, Nat.lt_of_lt_of_le h.lt hb.size⟩
theorem New2.within {w w' : World} {lo hi g : Nat} {u v : Value} (h : New2 w g u v) (hw : Within lo hi w w') (ha : g < lo ∨ hi ≤ g) : New2 w' g u v := by
  have e := hw.block g h.lt ha
  exact ⟨(World.cell?_of_block (a := ⟨g, 0, none⟩) e).trans h.c0, (World.cell?_of_block (a := ⟨g, 1, none⟩) e).trans h.c1, (World.frozen?_of_block (a := ⟨g, 0, none⟩) e).trans h.f0, (World.frozen?_of_block (a := ⟨g, 1, none⟩) e).trans h.f1, Nat.lt_of_lt_of_le h.lt hw.size⟩
theorem New2.new (w : World) (u v : Value) (t : TypeId) : New2 (w.alloc (.cells #[u, v] t)) w.heap.size u v :=
  ⟨by rw [World.cell?_alloc_mark]; rfl, by rw [World.cell?_alloc_mark]; rfl, by rw [World.frozen?_alloc_mark]; simp, by rw [World.frozen?_alloc_mark]; simp, by simp⟩
theorem New2.store {w : World} {g : Nat} {u v : Value} (h : New2 w g u v) (x y : Value) : Var2 ((w.setCell ⟨g, 0, none⟩ x).setCell ⟨g, 1, none⟩ y) g x y := by
  refine ⟨?_, ?_, by simpa [World.setCell] using h.lt⟩
  · rw [World.cell?_setCell_other _ _ _ _ (ne_off (by omega)), World.cell?_setCell_same _ _ _ h.c0]
  · have c := h.c1
    rw [← World.cell?_setCell_other w (⟨g, 0, none⟩ : Addr) _ x (ne_off (by omega))] at c
    rw [World.cell?_setCell_same _ _ _ c]
structure Var3 (w : World) (g : Nat) (u v x : Value) : Prop where
  c0 : w.cell? ⟨g, 0, none⟩ = some u
  c1 : w.cell? ⟨g, 1, none⟩ = some v
  c2 : w.cell? ⟨g, 2, none⟩ = some x
  lt : g < w.heap.size
theorem Var3.below {w w' : World} {g : Nat} {u v x : Value} (h : Var3 w g u v x) (hb : Below w.heap.size w w') : Var3 w' g u v x :=
  ⟨(hb.cell (p := ⟨g, 0, none⟩) h.lt).trans h.c0, (hb.cell (p := ⟨g, 1, none⟩) h.lt).trans h.c1, (hb.cell (p := ⟨g, 2, none⟩) h.lt).trans h.c2, Nat.lt_of_lt_of_le h.lt hb.size⟩
theorem Var3.within {w w' : World} {lo hi g : Nat} {u v x : Value} (h : Var3 w g u v x) (hw : Within lo hi w w') (ha : g < lo ∨ hi ≤ g) : Var3 w' g u v x := by
  have e := hw.block g h.lt ha
  exact ⟨(World.cell?_of_block (a := ⟨g, 0, none⟩) e).trans h.c0, (World.cell?_of_block (a := ⟨g, 1, none⟩) e).trans h.c1, (World.cell?_of_block (a := ⟨g, 2, none⟩) e).trans h.c2, Nat.lt_of_lt_of_le h.lt hw.size⟩
theorem Var3.new (w : World) (u v x : Value) (t : TypeId) : Var3 (w.alloc (.cells #[u, v, x] t)) w.heap.size u v x :=
  ⟨by rw [World.cell?_alloc_mark]; rfl, by rw [World.cell?_alloc_mark]; rfl, by rw [World.cell?_alloc_mark]; rfl, by simp⟩
structure New3 (w : World) (g : Nat) (u v x : Value) : Prop where
  c0 : w.cell? ⟨g, 0, none⟩ = some u
  c1 : w.cell? ⟨g, 1, none⟩ = some v
  c2 : w.cell? ⟨g, 2, none⟩ = some x
  f0 : w.frozen? ⟨g, 0, none⟩ = false
  f1 : w.frozen? ⟨g, 1, none⟩ = false
  f2 : w.frozen? ⟨g, 2, none⟩ = false
  lt : g < w.heap.size
theorem New3.below {w w' : World} {g : Nat} {u v x : Value} (h : New3 w g u v x) (hb : Below w.heap.size w w') : New3 w' g u v x :=
  ⟨(hb.cell (p := ⟨g, 0, none⟩) h.lt).trans h.c0, (hb.cell (p := ⟨g, 1, none⟩) h.lt).trans h.c1, (hb.cell (p := ⟨g, 2, none⟩) h.lt).trans h.c2,
    (hb.frozen (p := ⟨g, 0, none⟩) h.lt).trans h.f0, (hb.frozen (p := ⟨g, 1, none⟩) h.lt).trans h.f1, (hb.frozen (p := ⟨g, 2, none⟩) h.lt).trans h.f2, Nat.lt_of_lt_of_le h.lt hb.size⟩
theorem New3.new (w : World) (u v x : Value) (t : TypeId) : New3 (w.alloc (.cells #[u, v, x] t)) w.heap.size u v x :=
  ⟨by rw [World.cell?_alloc_mark]; rfl, by rw [World.cell?_alloc_mark]; rfl, by rw [World.cell?_alloc_mark]; rfl, by rw [World.frozen?_alloc_mark]; simp, by rw [World.frozen?_alloc_mark]; simp, by rw [World.frozen?_alloc_mark]; simp, by simp⟩
theorem New3.store {w : World} {g : Nat} {u v x : Value} (h : New3 w g u v x) (u' v' x' : Value) : Var3 (((w.setCell ⟨g, 0, none⟩ u').setCell ⟨g, 1, none⟩ v').setCell ⟨g, 2, none⟩ x') g u' v' x' := by
  have c1 := h.c1
  rw [← World.cell?_setCell_other w (⟨g, 0, none⟩ : Addr) _ u' (ne_off (by omega))] at c1
  have c2 := h.c2
  rw [← World.cell?_setCell_other w (⟨g, 0, none⟩ : Addr) _ u' (ne_off (by omega)), ← World.cell?_setCell_other _ (⟨g, 1, none⟩ : Addr) _ v' (ne_off (by omega))] at c2
  refine ⟨?_, ?_, ?_, by simpa [World.setCell] using h.lt⟩
  · rw [World.cell?_setCell_other _ _ _ _ (ne_off (by omega)), World.cell?_setCell_other _ _ _ _ (ne_off (by omega)), World.cell?_setCell_same _ _ _ h.c0]
  · rw [World.cell?_setCell_other _ _ _ _ (ne_off (by omega)), World.cell?_setCell_same _ _ _ c1]
  · rw [World.cell?_setCell_same _ _ _ c2]
theorem own_same {w w' : World} {B e size n : Nat} {v : Value} {xs : List Value} (h : w.ownsRow B e size v n xs) (hs : ∀ k, v.ownBlock = some k → w'.heap[k]? = w.heap[k]?) : w'.ownsRow B e size v n xs := by
  obtain ⟨h1, h2⟩ := h
  refine ⟨h1, ?_⟩
  rcases h2 with h2 | ⟨g, cap, cur, rfl, hg, hh, r⟩
  · exact .inl h2
  · exact .inr ⟨g, cap, cur, rfl, hg, (hs g rfl).trans hh, r⟩
theorem own_within {w w' : World} {B e size n lo hi : Nat} {v : Value} {xs : List Value} (h : w.ownsRow B e size v n xs) (hw : Within lo hi w w') (ha : hi ≤ B) : w'.ownsRow B e size v n xs :=
  own_same h fun k hk => by
    have := h.lt k hk
    exact hw.block k this.2 (by omega)
theorem own_below {w w' : World} {B e size n : Nat} {v : Value} {xs : List Value} (h : w.ownsRow B e size v n xs) (hb : Below w.heap.size w w') : w'.ownsRow B e size v n xs := by
  obtain ⟨h1, h2⟩ := h
  refine ⟨h1, ?_⟩
  rcases h2 with h2 | ⟨g, cap, cur, hv, hg, hh, r⟩
  · exact .inl h2
  · exact .inr ⟨g, cap, cur, hv, hg, (hb.block g (Array.getElem?_eq_some_iff.1 hh).1).trans hh, r⟩
theorem step_alloc (w : World) (o : Obj) : Below w.heap.size w (w.alloc o) := (Below.refl _ _).alloc (Nat.le_refl _) _
theorem step_drew (w : World) : Below w.heap.size w w.drew := (Below.refl _ _).drew
end Go.Proofs.YtiaoifodaoifjaaDoor.Mk
namespace Go.Proofs.YtiaoifodaoifjaaDoor.Rw
open Go.RowKit Go.Proofs.YtiaoifodaoifjaaDoor.Mk
variable {α : Type} {k : Nat} {enc : α → Nat → Value}
def RowAt (k : Nat) (enc : α → Nat → Value) (w : World) (a : Option Addr) (l : List α) : Prop :=
  l = [] ∨ ∃ g off, a = some ⟨g, off, none⟩ ∧ ∀ i (h : i < l.length) j, j < k → w.cell? ⟨g, off + i * k + j, none⟩ = some (enc l[i] j)
def RowBelow (k : Nat) (enc : α → Nat → Value) (w : World) (B : Nat) (a : Option Addr) (l : List α) : Prop :=
  l = [] ∨ ∃ g off, a = some ⟨g, off, none⟩ ∧ g < B ∧ ∀ i (h : i < l.length) j, j < k → w.cell? ⟨g, off + i * k + j, none⟩ = some (enc l[i] j)
theorem RowAt.below {w : World} {a : Option Addr} {l : List α} (hk : 0 < k) (h : RowAt k enc w a l) : RowBelow k enc w w.heap.size a l := by
  rcases h with h | ⟨g, off, ha, hc⟩
  · exact .inl h
  · by_cases hl : l = []
    · exact .inl hl
    · have h0 : 0 < l.length := List.length_pos_iff.2 hl
      exact .inr ⟨g, off, ha, by simpa using World.block_lt_of_cell? w _ (hc 0 h0 0 hk), hc⟩
theorem RowAt.mono {w w' : World} {a : Option Addr} {l : List α} (hk : 0 < k) (h : RowAt k enc w a l) (hb : Below w.heap.size w w') : RowAt k enc w' a l := by
  rcases h.below hk with h | ⟨g, off, ha, hg, hc⟩
  · exact .inl h
  · exact .inr ⟨g, off, ha, fun i hi j hj => (hb.cell (p := ⟨g, _, none⟩) hg).trans (hc i hi j hj)⟩
theorem RowAt.nil (w : World) (a : Option Addr) : RowAt k enc w a [] := .inl rfl
theorem RowAt.cells {w : World} {a : Option Addr} {l : List α} (hk : 0 < k) (h : RowAt k enc w a l) {i : Nat} (hi : i < l.length) :
    ∃ g off, a = some ⟨g, off, none⟩ ∧ g < w.heap.size ∧ ∀ j, j < k → w.cell? ⟨g, off + i * k + j, none⟩ = some (enc l[i] j) := by
  rcases h.below hk with rfl | ⟨g, off, ha, hg, hc⟩
  · cases hi
  · exact ⟨g, off, ha, hg, hc i hi⟩
structure ROwn (k : Nat) (enc : α → Nat → Value) (w : World) (g : Nat) (l : List α) : Prop where
  cell : ∀ i (h : i < l.length) j, j < k → w.cell? ⟨g, i * k + j, none⟩ = some (enc l[i] j)
  free : ∀ j, w.frozen? ⟨g, j, none⟩ = false
theorem ROwn.same {w w' : World} {g : Nat} {l : List α} (h : ROwn k enc w g l) (hs : w'.heap[g]? = w.heap[g]?) : ROwn k enc w' g l where
  cell := fun i hi j hj => (World.cell?_of_block (a := ⟨g, i * k + j, none⟩) hs).trans (h.cell i hi j hj)
  free := fun j => (World.frozen?_of_block (a := ⟨g, j, none⟩) hs).trans (h.free j)
theorem ROwn.lt {w : World} {g : Nat} {l : List α} (hk : 0 < k) (h : ROwn k enc w g l) (hl : 0 < l.length) : g < w.heap.size := by simpa using World.block_lt_of_cell? w _ (h.cell 0 hl 0 hk)
theorem ROwn.put {w w' : World} {g : Nat} {l : List α} (h : ROwn k enc w g l) (idx : Nat) (x : α)
    (h1 : ∀ j, j < k → w'.cell? ⟨g, idx * k + j, none⟩ = some (enc x j)) (h2 : ∀ o, o < idx * k ∨ idx * k + k ≤ o → w'.cell? ⟨g, o, none⟩ = w.cell? ⟨g, o, none⟩) (h3 : ∀ j, w'.frozen? ⟨g, j, none⟩ = w.frozen? ⟨g, j, none⟩) :
    ROwn k enc w' g (l.set idx x) where
  cell := fun i hi j hj => by
    have hi' : i < l.length := by simpa using hi
    by_cases e : idx = i
    · subst e; rw [h1 j hj, List.getElem_set_self]
    · rw [h2 (i * k + j), h.cell i hi' j hj, List.getElem_set_ne e]
      rcases Nat.lt_or_gt_of_ne e with c | c
      · right
        have := Nat.mul_le_mul_right k (show idx + 1 ≤ i from c)
        rw [Nat.add_mul] at this; omega
      · left
        have := Nat.mul_le_mul_right k (show i + 1 ≤ idx from c)
        rw [Nat.add_mul] at this; omega
  free := fun j => (h3 j).trans (h.free j)
def ROwnIn (k : Nat) (enc : α → Nat → Value) (w : World) (lo hi : Nat) (a : Option Addr) (l : List α) : Prop := l = [] ∨ ∃ g, a = some ⟨g, 0, none⟩ ∧ lo ≤ g ∧ g < hi ∧ ROwn k enc w g l
theorem ROwnIn.same {w w' : World} {lo hi : Nat} {a : Option Addr} {l : List α} (h : ROwnIn k enc w lo hi a l) (hs : Same lo hi w w') : ROwnIn k enc w' lo hi a l := by
  rcases h with h | ⟨g, ha, h1, h2, ho⟩
  · exact .inl h
  · exact .inr ⟨g, ha, h1, h2, ho.same (hs g h1 h2)⟩
theorem ROwnIn.at_ {w : World} {lo hi : Nat} {a : Option Addr} {l : List α} (h : ROwnIn k enc w lo hi a l) : RowAt k enc w a l := by
  rcases h with h | ⟨g, ha, h1, h2, ho⟩
  · exact .inl h
  · exact .inr ⟨g, 0, ha, fun i hi j hj => by simpa using ho.cell i hi j hj⟩
theorem ROwnIn.wide {w : World} {lo hi lo' hi' : Nat} {a : Option Addr} {l : List α} (h : ROwnIn k enc w lo hi a l) (h1 : lo' ≤ lo) (h2 : hi ≤ hi') : ROwnIn k enc w lo' hi' a l := by
  rcases h with h | ⟨g, ha, h3, h4, ho⟩
  · exact .inl h
  · exact .inr ⟨g, ha, by omega, by omega, ho⟩
theorem RowBelow.same {w w' : World} {B : Nat} {a : Option Addr} {l : List α} (h : RowBelow k enc w B a l) (hs : Same 0 B w w') : RowBelow k enc w' B a l := by
  rcases h with h | ⟨g, off, ha, hg, hc⟩
  · exact .inl h
  · have e := hs g (Nat.zero_le _) hg
    exact .inr ⟨g, off, ha, hg, fun i hi j hj => (World.cell?_of_block (a := ⟨g, _, none⟩) e).trans (hc i hi j hj)⟩
def flatE (k : Nat) (enc : α → Nat → Value) (l : List α) : List Value := l.flatMap fun x => (List.range k).map (enc x)
theorem flatE_length (l : List α) : (flatE k enc l).length = l.length * k := by
  induction l with
  | nil => simp [flatE]
  | cons x r ih =>
    show (((List.range k).map (enc x)) ++ flatE k enc r).length = _
    rw [List.length_append, ih, List.length_map, List.length_range, List.length_cons, Nat.add_mul]; omega
theorem flatE_get : ∀ (l : List α) (i : Nat) (h : i < l.length) (j : Nat), j < k → (flatE k enc l)[i * k + j]? = some (enc l[i] j)
  | x :: r, 0, _, j, hj => by
    show (((List.range k).map (enc x)) ++ flatE k enc r)[0 * k + j]? = _
    rw [List.getElem?_append_left (by simp; first | exact hj | omega)]
    simp [hj]
  | x :: r, i + 1, h, j, hj => by
    have := flatE_get r i (by simpa using h) j hj
    show (((List.range k).map (enc x)) ++ flatE k enc r)[(i + 1) * k + j]? = _
    have e : (i + 1) * k + j = k + (i * k + j) := by rw [Nat.add_mul]; omega
    rw [e, List.getElem?_append_right (by simp)]
    simpa using this
theorem own_row {w : World} {B n e : Nat} {v : Value} {l : List α} (hk : 0 < k) (h : w.ownsRow B e k v n (flatE k enc l)) : ∃ a cap, v = .slice a l.length cap ∧ ROwnIn k enc w B w.heap.size a l := by
  obtain ⟨hlen, hc⟩ := h
  have hn : n = l.length := by
    rw [flatE_length] at hlen
    exact (Nat.eq_of_mul_eq_mul_right hk hlen).symm
  subst hn
  rcases hc with ⟨rfl, h0⟩ | ⟨g, cap, cur, rfl, hg, hh, hn, hm, hs, ht⟩
  · exact ⟨none, 0, by rw [h0], .inl (List.length_eq_zero_iff.1 h0)⟩
  · refine ⟨_, _, rfl, .inr ⟨g, rfl, hg, (Array.getElem?_eq_some_iff.1 hh).1, ?_⟩⟩
    have get : ∀ j, j < l.length * k → cur[j]? = (flatE k enc l)[j]? := fun j hj => by
      rw [← ht, List.getElem?_take_of_lt hj]; simp
    exact {
      cell := fun i hi j hj => by
        have hb : i * k + j < l.length * k := by
          have := Nat.mul_le_mul_right k (show i + 1 ≤ l.length from hi)
          rw [Nat.add_mul] at this; omega
        simp [World.cell?, hh, get _ hb, flatE_get l i hi j hj]
      free := fun j => by simp [World.frozen?, hh] }
theorem ROwn.new {z : α} {zs : Array Value} (hz : zs.size = k) (hzs : ∀ j, j < k → zs[j]? = some (enc z j)) (w : World) (n : Nat) (t : TypeId) :
    ROwn k enc (w.alloc (.cells (madeCells zs (n * k)) t)) w.heap.size (List.replicate n z) where
  cell := fun i hi j hj => by
    have hi' : i < n := by simpa using hi
    rw [World.cell?_alloc_mark]
    have hb : i * k + j < n * k := by
      have := Nat.mul_le_mul_right k (show i + 1 ≤ n from hi')
      rw [Nat.add_mul] at this; omega
    have hm : (i * k + j) % k = j := by rw [Nat.mul_comm, Nat.mul_add_mod, Nat.mod_eq_of_lt hj]
    have := hzs j hj
    simp [madeCells, hb, hz, hm, List.getElem_replicate]
    rw [Array.getElem!_eq_getD, Array.getD_eq_getD_getElem?, this]; rfl
  free := fun j => by rw [World.frozen?_alloc_mark]; simp
end Go.Proofs.YtiaoifodaoifjaaDoor.Rw
namespace Go.Proofs.YtiaoifodaoifjaaDoor.Mk
open Go.RowKit
theorem infoM : (Tryd.prog.info? 64).map (fun i => (i.zero, i.size, i.bytes)) = some (some (.agg #[.int .i64 0, .int .i64 0]), 2, 16) := by kernel_rfl
theorem Own.new (w : World) (n : Nat) : Own (w.alloc (.cells (madeCells #[.int .i64 0, .int .i64 0] (n * 2)) 64)) w.heap.size (List.replicate n (0, 0)) where
  cell0 := fun i hi => by
    have hi' : i < n := by simpa using hi
    rw [World.cell?_alloc_mark]
    simp [made_get n (i * 2) (by omega)]
  cell1 := fun i hi => by
    have hi' : i < n := by simpa using hi
    rw [World.cell?_alloc_mark]
    simp [made_get n (i * 2 + 1) (by omega)]
  free := fun j => by rw [World.frozen?_alloc_mark]; simp
theorem run_make_marks (n : Nat) (hn : n ≤ 1048576) (w : World) :
    (Instr.makeSlice 23 (.int .i64 (n : Int)) (.int .i64 (n : Int))).run Tryd.prog w = .ok (.slice (some ⟨w.heap.size, 0, none⟩) n n) (w.alloc (.cells (madeCells #[.int .i64 0, .int .i64 0] (n * 2)) 64)) := by
  obtain ⟨i0, hi, hz0, hz1, hz2⟩ := info_parts infoM
  have := run_make (P := Tryd.prog) w 23 64 i0 _ Tryd.underlying23 hi hz0 .i64 .i64 n n (by omega) (by omega) (by rw [hz2]; omega) (by omega)
  rw [hz1] at this
  simpa [Value.cells] using this
theorem own_row {w : World} {B n : Nat} {v : Value} {l : List (Int × Int)} (h : w.ownsRow B 64 2 v n (flat l)) : ∃ a cap, v = .slice a l.length cap ∧ OwnIn w B w.heap.size a l := by
  obtain ⟨hlen, hc⟩ := h
  have hn : n = l.length := by rw [flat_length] at hlen; omega
  subst hn
  rcases hc with ⟨rfl, h0⟩ | ⟨g, cap, cur, rfl, hg, hh, hn, hm, hs, ht⟩
  · exact ⟨none, 0, by rw [h0], .inl (List.length_eq_zero_iff.1 h0)⟩
  · refine ⟨_, _, rfl, .inr ⟨g, rfl, hg, (Array.getElem?_eq_some_iff.1 hh).1, ?_⟩⟩
    have get : ∀ j, j < l.length * 2 → cur[j]? = (flat l)[j]? := fun j hj => by
      rw [← ht, List.getElem?_take_of_lt hj]; simp
    exact {
      cell0 := fun i hi => by simp [World.cell?, hh, get (i * 2) (by omega), (flat_get l i hi).1]
      cell1 := fun i hi => by simp [World.cell?, hh, get (i * 2 + 1) (by omega), (flat_get l i hi).2]
      free := fun j => by simp [World.frozen?, hh] }
theorem wpList_append_mark (w0 : World) {ops : Array Oper} {rest : List Oper} {o : Oper} {a : Act} {Q : Exit → Act → World → Prop} (hg : o.guard = none) (s x : Operand)
    (hop : o.op = .call { callee := .builtin .append, args := #[s, x], argTypes := #[23, 23] }) (B : Nat) (v : Value) (l : List (Int × Int)) (m : Int × Int) (hs : a.eval s = v) (G : Nat) (hG : w0.heap.size = G)
    (hx : a.eval x = .slice (some ⟨G, 0, none⟩) 1 1) (hown : w0.ownsRow B 64 2 v l.length (flat l)) (hl : l.length ≤ 1000000) (hB : B ≤ w0.heap.size)
    (h : ∀ v' w', w'.ownsRow B 64 2 v' (l ++ [m]).length (flat (l ++ [m])) → Below B w0 w' → wpList Tryd.prog ops Q rest (a.put o.dst v') w') :
    wpList Tryd.prog ops Q (o :: rest) a (w0.alloc (.cells #[.int .i64 m.1, .int .i64 m.2] 64)) := by
  subst hG
  obtain ⟨i0, hi, hz0, hz1, hz2⟩ := info_parts infoM
  refine wpList_append_own _ hg s x 23 hop B 64 i0 _ 2 16 Tryd.underlying23 hi hz0 hz1 hz2 rfl (by decide) v l.length (flat l) hs (hown.alloc _) ⟨w0.heap.size, 0, none⟩ 1 1 [.int .i64 m.1, .int .i64 m.2] hx rfl
    (World.news_of_block (cs := #[.int .i64 m.1, .int .i64 m.2]) (heap_alloc_new w0 _)) (fun u hu => by simp at hu; rcases hu with rfl | rfl <;> rfl) (by unfold maxLen; omega) (by omega) (by simp; omega) (fun v' w' h1 h2 _ => h v' w' ?_ ?_)
  · rw [flat_snoc, List.length_append]; exact h1
  · exact ((Below.refl B w0).alloc hB _).grown h2 (by simp; omega) (fun k hk => (hown.lt k hk).1)
end Go.Proofs.YtiaoifodaoifjaaDoor.Mk
namespace Go.Proofs.YtiaoifodaoifjaaDoor.Sb
open Go.RowKit Go.Proofs.YtiaoifodaoifjaaDoor.Mk Go.Proofs.YtiaoifodaoifjaaDoor.Rw
abbrev Sib := (Int × Int) × Bool × ByteArray
def z0 : Sib := ((0, 0), false, ByteArray.empty)
open Go.Proofs.YtiaoifodaoifjaaDoor.Mk
def lessB (a b : Int × Int) : Bool := decide (a.1 < b.1) || (decide (a.1 = b.1) && decide (a.2 < b.2))
def contB (d : ByteArray) (gone : Bool) : Bool := decide (d.size ≤ 16) && (!gone || decide (d.size = 0))
def sibOk (l : List (Int × Int)) (x : Sib) : Bool := hasB l x.1 && contB x.2.2 x.2.1
def Inc (s : List Sib) : Prop := ∀ k, k + 1 < s.length → lessB (s.getD k z0).1 (s.getD (k + 1) z0).1 = true
instance (s : List Sib) : Decidable (Inc s) := decidable_of_iff (∀ k, k < s.length - 1 → lessB (s.getD k z0).1 (s.getD (k + 1) z0).1 = true) ⟨fun h k hk => h k (by omega), fun h k hk => h k (by omega)⟩
def AllOk (l : List (Int × Int)) (s : List Sib) : Prop := ∀ x ∈ s, sibOk l x = true
def SetOk (l : List (Int × Int)) (s : List Sib) : Prop := rightB l = true ∧ s.length ≤ 8 ∧ AllOk l s ∧ Inc s
instance (l : List (Int × Int)) (s : List Sib) : Decidable (AllOk l s) := by unfold AllOk; infer_instance
instance (l : List (Int × Int)) (s : List Sib) : Decidable (SetOk l s) := by unfold SetOk; infer_instance
def setB (l : List (Int × Int)) (s : List Sib) : Bool := decide (SetOk l s)
end Go.Proofs.YtiaoifodaoifjaaDoor.Sb
namespace Go.Proofs.YtiaoifodaoifjaaDoor.Mk
open Go.RowKit
def nodeB (n : Int) : Bool := decide (1 ≤ n) && decide (n ≤ 5)
theorem nodeRight (n : Int) (w : World) : Calls Tryd.prog 67 #[.int .i64 n] w fun e w' => e = .returned (.bool (nodeB n)) ∧ w = w' := by
  go_enter Tryd.func67, Tryd.ntmps67
  go_wp2
  all_goals go_ret
  all_goals (refine ⟨ret_bool ?_, rfl⟩; unfold nodeB; simp; omega)
theorem dotRight (m : Int × Int) (w : World) : Calls Tryd.prog 47 #[mv m] w fun e w' => e = .returned (.bool (dotB m)) ∧ Below w.heap.size w w' := by
  obtain ⟨x, y⟩ := m
  unfold mv
  have e : dotB (x, y) = (nodeB x && decide (1 ≤ y) && decide (y ≤ 1000000)) := by unfold dotB nodeB; rfl
  rw [e]
  clear e
  cases hn : nodeB x
  · go_enter Tryd.func47, Tryd.ntmps47
    go_wp2_with (go_at_call 67; refine (nodeRight _ _).mono ?_; rintro e w' ⟨rfl, rfl⟩)
    go_ret
    exact ⟨rfl, (Below.refl _ _).alloc (Nat.le_refl _) _⟩
  · rcases (by omega : y < 1 ∨ (1 ≤ y ∧ y ≤ 1000000) ∨ (1 ≤ y ∧ 1000000 < y)) with h3 | ⟨h3, h4⟩ | ⟨h3, h4⟩
    all_goals
      go_enter Tryd.func47, Tryd.ntmps47
      go_wp2_with (go_at_call 67; refine (nodeRight _ _).mono ?_; rintro e w' ⟨rfl, rfl⟩)
      all_goals go_ret
      all_goals exact ⟨ret_bool (by simp; omega), (Below.refl _ _).alloc (Nat.le_refl _) _⟩
set_option maxRecDepth 100000 in
set_option maxHeartbeats 1000000 in
theorem seenRight (a : Option Addr) (cap : Nat) (l : List (Int × Int)) (w : World) (hl : l.length ≤ maxLen) (h : MarksAt w a l) :
    Calls Tryd.prog 22 #[.slice a l.length cap] w fun e w' => e = .returned (.bool (rightB l)) ∧ Below w.heap.size w w' := by
  have H := jj h
  clear h
  unfold maxLen at hl
  go_enter Tryd.func22, Tryd.ntmps22
  go_wp2
  go_loopw [3, 8] (fun z i wr => ∃ (k : Nat) (last : Int), k ≤ l.length ∧ i = .int .i64 k ∧ z = .int .i64 last ∧ rightB l = okFrom last (l.drop k) ∧ Below w.heap.size w wr) (fun _ i _ => l.length - (intOf i).toNat)
  case atStart => exact ⟨0, 0, Nat.zero_le _, rfl, rfl, by simp [rightB], Below.refl _ _⟩
  case round =>
    obtain ⟨k, last, hk, rfl, rfl, hr, hbel⟩ := hrel
    have HR := jj hr
    have HB := jj hbel
    clear hr hbel
    by_cases hlt : k < l.length
    · obtain ⟨g, off, rfl, hg, c0, c1⟩ := (H.out.mono HB.out).cells hlt
      have HS := jj (HR.out.trans (okFrom_step l k last hlt))
      generalize l[k] = m at c0 c1 HS
      obtain ⟨x, y⟩ := m
      have hb0 := jj (HB.out.alloc HB.out.size (.cells #[.int .i64 x, .int .i64 y] 64))
      cases hd : dotB (x, y)
      · go_wp2_with (go_at_call 47; refine (dotRight (x, y) _).mono ?_; rintro e w' ⟨rfl, hb⟩)
        go_ret
        exact ⟨ret_bool (by rw [HS.out, hd]; rfl), hb0.out.trans (hb.mono (by have := HB.out.size; simp; omega))⟩
      · by_cases hx : last < x
        · go_wp2_with (go_at_call 47; refine (dotRight (x, y) _).mono ?_; rintro e w' ⟨rfl, hb⟩; have hc := hb.cell (p := ⟨wr.heap.size, 0, none⟩) (by simp))
          go_roundw
          case rel => exact ⟨k + 1, x, by omega, by go_num, rfl, by rw [HS.out, hd]; simp [hx], hb0.out.trans (hb.mono (by have := HB.out.size; simp; omega))⟩
          case measure => go_light; simp [intOf]; omega
        · go_wp2_with (go_at_call 47; refine (dotRight (x, y) _).mono ?_; rintro e w' ⟨rfl, hb⟩; have hc := hb.cell (p := ⟨wr.heap.size, 0, none⟩) (by simp))
          go_ret
          exact ⟨ret_bool (by rw [HS.out, hd, decide_eq_false (by omega : ¬ last < x)]; rfl), hb0.out.trans (hb.mono (by have := HB.out.size; simp; omega))⟩
    · go_wp2
      go_ret
      exact ⟨ret_bool (by rw [HR.out, okFrom_end l k last (by omega)]), HB.out⟩
def imax (a b : Int) : Int := if b < a then a else b
def jpick (a b : List (Int × Int)) (n : Int) : Option (Int × Int) := if 0 < imax (ofL a n) (ofL b n) then some (n, imax (ofL a n) (ofL b n)) else none
def joinTo (a b : List (Int × Int)) (k : Nat) : List (Int × Int) := (List.range k).filterMap fun (i : Nat) => jpick a b ((i : Int) + 1)
theorem joinTo_succ (a b : List (Int × Int)) (k : Nat) : joinTo a b (k + 1) = joinTo a b k ++ (jpick a b ((k : Int) + 1)).toList := by
  unfold joinTo; rw [List.range_succ, List.filterMap_append]; simp [List.filterMap_cons]; split <;> simp_all
theorem joinTo_length (a b : List (Int × Int)) (k : Nat) : (joinTo a b k).length ≤ k := Nat.le_trans (List.length_filterMap_le _ _) (by simp)
end Go.Proofs.YtiaoifodaoifjaaDoor.Mk
namespace Go.Proofs.YtiaoifodaoifjaaDoor.Nu
def enc (u : Nat) : List UInt8 := if u < 128 then [UInt8.ofNat u] else UInt8.ofNat (u % 128 + 128) :: enc (u / 128)
termination_by u
decreasing_by omega
theorem enc_small (u : Nat) (h : u < 128) : enc u = [UInt8.ofNat u] := by rw [enc, if_pos h]
theorem enc_more (u : Nat) (h : ¬ u < 128) : enc u = UInt8.ofNat (u % 128 + 128) :: enc (u / 128) := by rw [enc, if_neg h]
def fold (n : Int) : Nat := if n < 0 then (-2 * n - 1).toNat else (2 * n).toNat
theorem fold_lt (n : Int) (h : -9223372036854775808 ≤ n ∧ n ≤ 9223372036854775807) : fold n < 18446744073709551616 := by
  unfold fold; split <;> omega
theorem toNat_ofNat (k : Nat) (h : k < 256) : (UInt8.ofNat k).toNat = k := UInt8.toNat_ofNat_of_lt (by simpa using h)
theorem left_lt (u' k : Nat) (h : u' * 128 ^ k < 18446744073709551616) (h8 : 128 ≤ u') : k < 9 := by
  rcases Nat.lt_or_ge k 9 with hk | hk
  · exact hk
  · exfalso
    have h1 : (128 : Nat) ^ 9 ≤ 128 ^ k := Nat.pow_le_pow_right (by omega) hk
    have h2 : 128 * 128 ^ 9 ≤ u' * 128 ^ k := Nat.mul_le_mul h8 h1
    have h3 : (128 : Nat) * 128 ^ 9 = 1180591620717411303424 := by decide
    omega
theorem left_next (u' k : Nat) (h : u' * 128 ^ k < 18446744073709551616) : u' / 128 * 128 ^ (k + 1) < 18446744073709551616 := by
  have : u' / 128 * 128 ^ (k + 1) ≤ u' * 128 ^ k := by
    rw [Nat.pow_succ, Nat.mul_comm (128 ^ k) 128, ← Nat.mul_assoc]
    exact Nat.mul_le_mul_right _ (by omega)
  omega
theorem step_bytes (acc : List UInt8) (u u' : Nat) (h : acc ++ enc u' = enc u) (h8 : ¬ u' < 128) : (acc ++ [UInt8.ofNat (u' % 128 + 128)]) ++ enc (u' / 128) = enc u := by
  rw [← h, enc_more u' h8]; simp
theorem last_bytes (acc : List UInt8) (u u' : Nat) (h : acc ++ enc u' = enc u) (h8 : u' < 128) : acc ++ [UInt8.ofNat u'] = enc u := by
  rw [← h, enc_small u' h8]
theorem enc_len (u k : Nat) (h : u < 128 ^ (k + 1)) : (enc u).length ≤ k + 1 := by
  induction k generalizing u with
  | zero => rw [enc_small u (by simpa using h)]; simp
  | succ k ih =>
    by_cases h8 : u < 128
    · rw [enc_small u h8]; simp
    · rw [enc_more u h8]
      have : u / 128 < 128 ^ (k + 1) := by
        rw [Nat.div_lt_iff_lt_mul (by omega)]
        rw [Nat.pow_succ] at h; exact h
      have := ih _ this
      simp; omega
theorem enc_len10 (u : Nat) (h : u < 18446744073709551616) : (enc u).length ≤ 10 := enc_len u 9 (by
  have : (128 : Nat) ^ (9 + 1) = 1180591620717411303424 := by decide
  omega)
theorem enc_pos (u : Nat) : 0 < (enc u).length := by
  by_cases h8 : u < 128
  · rw [enc_small u h8]; simp
  · rw [enc_more u h8]; simp
def numS (n : Int) : ByteArray := ⟨(enc (fold n)).toArray⟩
theorem numS_size_of (n : Int) (h : -9223372036854775808 ≤ n ∧ n ≤ 9223372036854775807) : (numS n).size ≤ 10 := by
  have := enc_len10 (fold n) (fold_lt n h)
  simpa [numS, ByteArray.size] using this
theorem numS_size (n : Nat) (h : n ≤ 1000000) : (numS n).size ≤ 10 := numS_size_of n (by omega)
theorem numS_data (n : Int) : (numS n).data.toList = enc (fold n) := rfl
theorem numS_mk (n : Int) : ByteArray.mk (enc (fold n)).toArray = numS n := rfl
end Go.Proofs.YtiaoifodaoifjaaDoor.Nu
namespace Go.Proofs.YtiaoifodaoifjaaDoor.Mk
open Nu
def markB (m : Int × Int) : List UInt8 := enc (fold m.1) ++ enc (fold m.2)
def seenB (l : List (Int × Int)) : List UInt8 := enc (fold l.length) ++ l.flatMap markB
def bytesV (l : List (Int × Int)) : ByteArray := if rightB l = true then ⟨(seenB l).toArray⟩ else ⟨#[]⟩
def markS (m : Int × Int) : ByteArray := numS m.1 ++ numS m.2
theorem markS_data (m : Int × Int) : (markS m).data.toList = markB m := by unfold markS markB; rw [ByteArray.data_append]; simp [numS]
theorem markS_size (m : Int × Int) (h : dotB m = true) : (markS m).size ≤ 20 := by
  have hm := (dotB_iff m).1 h
  have h1 := numS_size_of m.1 (by omega)
  have h2 := numS_size_of m.2 (by omega)
  unfold markS; rw [ByteArray.size_append]; omega
theorem markB_length (m : Int × Int) (h : dotB m = true) : (markB m).length ≤ 20 := by
  have := markS_size m h
  rw [← markS_data, Array.length_toList]; exact this
theorem flat_length_le : ∀ (l : List (Int × Int)), (∀ m ∈ l, dotB m = true) → (l.flatMap markB).length ≤ 20 * l.length
  | [], _ => by simp
  | x :: r, h => by
    have h1 := markB_length x (h x (by simp))
    have h2 := flat_length_le r (fun m hm => h m (by simp [hm]))
    rw [List.flatMap_cons, List.length_append, List.length_cons]; omega
theorem bytesV_no {l : List (Int × Int)} (h : rightB l = false) : bytesV l = ⟨#[]⟩ := if_neg (by rw [h]; simp)
theorem bytesV_yes {l : List (Int × Int)} (h : rightB l = true) : bytesV l = ⟨(seenB l).toArray⟩ := if_pos h
def upTo (l : List (Int × Int)) (k : Nat) (t : ByteArray) : Prop := t.data.toList = enc (fold l.length) ++ (l.take k).flatMap markB ∧ t.size ≤ 10 + 20 * k
theorem upTo_zero (l : List (Int × Int)) (h : l.length ≤ 5) : upTo l 0 (numS l.length) := ⟨by simp [numS], by have := numS_size l.length (by omega); omega⟩
theorem upTo_next {l : List (Int × Int)} {k : Nat} {t : ByteArray} (h : upTo l k t) (hk : k < l.length) (hd : dotB l[k] = true) : upTo l (k + 1) (t ++ numS l[k].1 ++ numS l[k].2) := by
  have hm := (dotB_iff _).1 hd
  have h1 := numS_size_of l[k].1 (by omega)
  have h2 := numS_size_of l[k].2 (by omega)
  have h3 := h.2
  refine ⟨?_, by rw [ByteArray.size_append, ByteArray.size_append]; omega⟩
  rw [ByteArray.data_append, ByteArray.data_append, List.take_succ_eq_append_getElem hk, List.flatMap_append]
  simp only [Array.toList_append, h.1, numS_data, List.flatMap_cons, List.flatMap_nil, List.append_nil, markB, List.append_assoc]
theorem upTo_end {l : List (Int × Int)} {k : Nat} {t : ByteArray} (h : upTo l k t) (hk : l.length ≤ k) (hr : rightB l = true) : t = bytesV l := by
  rw [bytesV_yes hr]
  have h1 := h.1
  rw [List.take_of_length_le hk] at h1
  apply ByteArray.ext
  apply Array.ext'
  rw [h1]; rfl
end Go.Proofs.YtiaoifodaoifjaaDoor.Mk
namespace Go.Proofs.YtiaoifodaoifjaaDoor.Ge
def byteN (s : ByteArray) (k : Nat) : Nat := (s.data.toList.getD k 0).toNat
theorem byteN_eq (s : ByteArray) (k : Nat) (h : k < s.size) : byteN s k = s[k].toNat := by
  have e : s.data.toList[k]? = some s[k] := by rw [List.getElem?_eq_getElem (by simpa using h)]; rfl
  unfold byteN; rw [List.getD, e]; rfl
theorem byteN_lt (s : ByteArray) (k : Nat) : byteN s k < 256 := UInt8.toNat_lt _
def unz (u : Nat) : Int := if u % 2 = 1 then -(u / 2 : Nat) - 1 else (u / 2 : Nat)
def G (s : ByteArray) (a i u : Nat) : Int × Int × Int :=
  if i < 10 then
    if s.size ≤ a + i then (0, 0, 4)
    else if i = 9 ∧ 1 < byteN s (a + i) then (0, 0, 3)
    else if byteN s (a + i) < 128 then
      if byteN s (a + i) = 0 ∧ 0 < i then (0, 0, 3) else (unz (u + byteN s (a + i) % 128 * 128 ^ i), ((a + i + 1 : Nat) : Int), 0)
    else G s a (i + 1) (u + byteN s (a + i) % 128 * 128 ^ i)
  else (0, 0, 3)
termination_by 10 - i
section
variable {s : ByteArray} {a i u : Nat}
theorem G_end (h : ¬ i < 10) : G s a i u = (0, 0, 3) := by rw [G, if_neg h]
theorem G_short (h : i < 10) (h1 : s.size ≤ a + i) : G s a i u = (0, 0, 4) := by rw [G, if_pos h, if_pos h1]
theorem G_ten (h : i < 10) (h1 : ¬ s.size ≤ a + i) (h2 : i = 9 ∧ 1 < byteN s (a + i)) : G s a i u = (0, 0, 3) := by rw [G, if_pos h, if_neg h1, if_pos h2]
theorem G_zero (h : i < 10) (h1 : ¬ s.size ≤ a + i) (h2 : ¬ (i = 9 ∧ 1 < byteN s (a + i))) (h3 : byteN s (a + i) < 128) (h4 : byteN s (a + i) = 0 ∧ 0 < i) : G s a i u = (0, 0, 3) := by
  rw [G, if_pos h, if_neg h1, if_neg h2, if_pos h3, if_pos h4]
theorem G_last (h : i < 10) (h1 : ¬ s.size ≤ a + i) (h2 : ¬ (i = 9 ∧ 1 < byteN s (a + i))) (h3 : byteN s (a + i) < 128) (h4 : ¬ (byteN s (a + i) = 0 ∧ 0 < i)) :
    G s a i u = (unz (u + byteN s (a + i) % 128 * 128 ^ i), ((a + i + 1 : Nat) : Int), 0) := by
  rw [G, if_pos h, if_neg h1, if_neg h2, if_pos h3, if_neg h4]
theorem G_more (h : i < 10) (h1 : ¬ s.size ≤ a + i) (h2 : ¬ (i = 9 ∧ 1 < byteN s (a + i))) (h3 : ¬ byteN s (a + i) < 128) : G s a i u = G s a (i + 1) (u + byteN s (a + i) % 128 * 128 ^ i) := by
  rw [G, if_pos h, if_neg h1, if_neg h2, if_neg h3]
end
def readN (s : ByteArray) (at_ : Int) : Int × Int × Int := if at_ < 0 then (0, 0, 1) else G s at_.toNat 0 0
def getN (s : ByteArray) (at_ : Int) : Int × Int × Int := if 8000 < s.size then (0, 0, 2) else readN s at_
theorem sum_lt (u b i : Nat) (hi : i < 10) (hu : u < 128 ^ i) (h9 : ¬ (i = 9 ∧ 1 < b)) (hb : b < 256) : u + b % 128 * 128 ^ i < 18446744073709551616 ∧ (¬ b < 128 → u + b % 128 * 128 ^ i < 128 ^ (i + 1) ∧ i < 9) := by
  have hm : b % 128 < 128 := Nat.mod_lt _ (by omega)
  have hp : b % 128 * 128 ^ i ≤ 127 * 128 ^ i := Nat.mul_le_mul_right _ (by omega)
  have hs : (128 : Nat) ^ (i + 1) = 128 * 128 ^ i := by rw [Nat.pow_succ]; omega
  by_cases e9 : i = 9
  · subst e9
    have hb1 : b ≤ 1 := by omega
    have h9' : (128 : Nat) ^ 9 = 9223372036854775808 := by decide
    have hp1 : b % 128 * 128 ^ 9 ≤ 1 * 128 ^ 9 := Nat.mul_le_mul_right _ (by omega)
    exact ⟨by omega, fun h => absurd hb1 (by omega)⟩
  · have h8 : (128 : Nat) ^ i ≤ 128 ^ 8 := Nat.pow_le_pow_right (by omega) (by omega)
    have h8' : (128 : Nat) ^ 8 = 72057594037927936 := by decide
    exact ⟨by omega, fun _ => ⟨by omega, by omega⟩⟩
theorem shl_eq (b i : Nat) : b * 2 ^ (7 * i) = b * 128 ^ i := by rw [Nat.pow_mul]
theorem or_eq (u b i : Nat) (hu : u < 128 ^ i) : u ||| b * 128 ^ i = u + b * 128 ^ i := by
  have e : (128 : Nat) ^ i = 2 ^ (7 * i) := by rw [Nat.pow_mul]
  rw [e] at hu ⊢
  rw [Nat.or_comm, nat_join (7 * i) (b * 2 ^ (7 * i)) u (Nat.mul_mod_left _ _) hu, Nat.add_comm]
end Go.Proofs.YtiaoifodaoifjaaDoor.Ge
namespace Go.Proofs.YtiaoifodaoifjaaDoor.Pn
open Nu Ge
theorem unz_fold (n : Int) : unz (fold n) = n := by
  unfold unz fold
  split <;> split <;> omega
def At (s : ByteArray) (k : Nat) (l : List UInt8) : Prop := k + l.length ≤ s.size ∧ ∀ j (h : j < l.length), byteN s (k + j) = l[j].toNat
theorem At.tail {s : ByteArray} {k : Nat} {c : UInt8} {l : List UInt8} (h : At s k (c :: l)) : At s (k + 1) l := by
  refine ⟨by have := h.1; simp at this; omega, fun j hj => ?_⟩
  have := h.2 (j + 1) (by simp; omega)
  rw [show k + 1 + j = k + (j + 1) by omega, this]; simp
theorem At.head {s : ByteArray} {k : Nat} {c : UInt8} {l : List UInt8} (h : At s k (c :: l)) : byteN s k = c.toNat ∧ k < s.size := by
  have h1 := h.1
  simp at h1
  exact ⟨by have := h.2 0 (by simp); simpa using this, by omega⟩
theorem nine (v i u : Nat) (hi : i < 10) (h : v * 128 ^ i + u < 18446744073709551616) : ¬ (i = 9 ∧ 1 < v) := by
  rintro ⟨rfl, hv⟩
  have e9 : (128 : Nat) ^ 9 = 9223372036854775808 := by decide
  rw [e9] at h
  omega
theorem G_enc (s : ByteArray) (a : Nat) : ∀ (v i u : Nat), At s (a + i) (enc v) → i < 10 → u < 128 ^ i → v * 128 ^ i + u < 18446744073709551616 → (i = 0 ∨ 0 < v) →
    G s a i u = (unz (u + v * 128 ^ i), ((a + i + (enc v).length : Nat) : Int), 0) := by
  intro v
  induction v using Nat.strongRecOn with
  | _ v ih =>
    intro i u hat hi hu hlt hz
    by_cases h8 : v < 128
    · rw [enc_small v h8] at hat ⊢
      obtain ⟨hb, hk⟩ := hat.head
      rw [toNat_ofNat v (by omega)] at hb
      rw [G_last hi (by omega) (by rw [hb]; exact nine v i u hi hlt) (by rw [hb]; exact h8) (by rw [hb]; omega), hb, Nat.mod_eq_of_lt h8]
      rfl
    · rw [enc_more v h8] at hat ⊢
      obtain ⟨hb, hk⟩ := hat.head
      rw [toNat_ofNat (v % 128 + 128) (by omega)] at hb
      have hi9 : i < 9 := left_lt v i (by omega) (by omega)
      have hp : (128 : Nat) ^ (i + 1) = 128 * 128 ^ i := by rw [Nat.pow_succ]; omega
      have hsum : v / 128 * 128 ^ (i + 1) + (u + v % 128 * 128 ^ i) = v * 128 ^ i + u := by
        have e : v = 128 * (v / 128) + v % 128 := by omega
        rw [hp]
        calc v / 128 * (128 * 128 ^ i) + (u + v % 128 * 128 ^ i) = (128 * (v / 128) + v % 128) * 128 ^ i + u := by rw [Nat.add_mul, ← Nat.mul_assoc, Nat.mul_comm (v / 128) 128]; omega
          _ = v * 128 ^ i + u := by rw [← e]
      have hm : (v % 128 + 128) % 128 = v % 128 := by omega
      have hul : u + v % 128 * 128 ^ i < 128 ^ (i + 1) := by
        have : v % 128 * 128 ^ i ≤ 127 * 128 ^ i := Nat.mul_le_mul_right _ (by omega)
        rw [hp]; omega
      rw [G_more hi (by omega) (by omega) (by rw [hb]; omega), hb, hm]
      rw [ih (v / 128) (by omega) (i + 1) (u + v % 128 * 128 ^ i) hat.tail (by omega) hul (by rw [hsum]; exact hlt) (.inr (by omega))]
      have e2 : u + v % 128 * 128 ^ i + v / 128 * 128 ^ (i + 1) = u + v * 128 ^ i := by omega
      rw [e2]
      simp only [List.length_cons]
      rw [show a + (i + 1) + (enc (v / 128)).length = a + i + ((enc (v / 128)).length + 1) by omega]
theorem fold_unz (u : Nat) : fold (unz u) = u := by
  unfold unz fold
  split <;> split <;> omega
theorem unz_bounds (u : Nat) (h : u < 18446744073709551616) : -9223372036854775808 ≤ unz u ∧ unz u ≤ 9223372036854775807 := by
  unfold unz; split <;> omega
theorem At.cons {s : ByteArray} {k : Nat} {c : UInt8} {l : List UInt8} (hk : k < s.size) (hc : byteN s k = c.toNat) (h : At s (k + 1) l) : At s k (c :: l) := by
  refine ⟨by have := h.1; simp; omega, fun j hj => ?_⟩
  cases j with
  | zero => simpa using hc
  | succ j =>
    have := h.2 j (by simpa using hj)
    rw [show k + (j + 1) = k + 1 + j by omega, this]; simp
theorem G_inv (s : ByteArray) (a : Nat) : ∀ (d i u : Nat) (n e : Int), 10 - i = d → u < 128 ^ i → G s a i u = (n, e, 0) →
    ∃ v, At s (a + i) (enc v) ∧ n = unz (u + v * 128 ^ i) ∧ e = ((a + i + (enc v).length : Nat) : Int) ∧ u + v * 128 ^ i < 18446744073709551616 ∧ (i = 0 ∨ 0 < v) := by
  intro d
  induction d with
  | zero =>
    intro i u n e hd hu h
    rw [G_end (by omega)] at h
    simp at h
  | succ d ih =>
    intro i u n e hd hu h
    have hi : i < 10 := by omega
    by_cases h1 : s.size ≤ a + i
    · rw [G_short hi h1] at h; simp at h
    by_cases h2 : i = 9 ∧ 1 < byteN s (a + i)
    · rw [G_ten hi h1 h2] at h; simp at h
    have hb := byteN_lt s (a + i)
    have hs := sum_lt u (byteN s (a + i)) i hi hu h2 hb
    by_cases h3 : byteN s (a + i) < 128
    · by_cases h4 : byteN s (a + i) = 0 ∧ 0 < i
      · rw [G_zero hi h1 h2 h3 h4] at h; simp at h
      · rw [G_last hi h1 h2 h3 h4] at h
        simp only [Prod.mk.injEq, and_true] at h
        rw [Nat.mod_eq_of_lt h3] at h hs
        refine ⟨byteN s (a + i), ?_, h.1.symm, ?_, hs.1, by omega⟩
        · rw [enc_small _ h3]
          exact At.cons (by omega) (by rw [toNat_ofNat _ (by omega)]) ⟨by simp; omega, fun j hj => by simp at hj⟩
        · rw [enc_small _ h3, ← h.2]; rfl
    · rw [G_more hi h1 h2 h3] at h
      obtain ⟨v, h5, h6, h7, h8, h9⟩ := ih (i + 1) _ n e (by omega) (hs.2 h3).1 h
      have hp : (128 : Nat) ^ (i + 1) = 128 * 128 ^ i := by rw [Nat.pow_succ]; omega
      have hv : 0 < v := by omega
      have e1 : u + byteN s (a + i) % 128 * 128 ^ i + v * 128 ^ (i + 1) = u + (byteN s (a + i) % 128 + 128 * v) * 128 ^ i := by
        rw [hp, Nat.add_mul, Nat.mul_assoc, Nat.mul_left_comm v 128, Nat.add_assoc]
      rw [e1] at h6 h8
      have e2 : (byteN s (a + i) % 128 + 128 * v) % 128 + 128 = byteN s (a + i) := by omega
      have e3 : (byteN s (a + i) % 128 + 128 * v) / 128 = v := by omega
      refine ⟨byteN s (a + i) % 128 + 128 * v, ?_, h6, ?_, h8, .inr (by omega)⟩
      · rw [enc_more _ (by omega), e2, e3]
        exact At.cons (by omega) (by rw [toNat_ofNat _ hb]) h5
      · rw [enc_more _ (by omega), e3, h7]
        simp only [List.length_cons]
        congr 1
        omega
theorem readN_inv {s : ByteArray} {a : Nat} {n e : Int} (h : readN s (a : Int) = (n, e, 0)) :
    At s a (enc (fold n)) ∧ e = ((a + (enc (fold n)).length : Nat) : Int) ∧ -9223372036854775808 ≤ n ∧ n ≤ 9223372036854775807 := by
  unfold readN at h
  rw [if_neg (by omega), Int.toNat_natCast] at h
  obtain ⟨v, h1, h2, h3, h4, _⟩ := G_inv s a 10 0 0 n e rfl (by decide) h
  simp only [Nat.pow_zero, Nat.mul_one, Nat.zero_add, Nat.add_zero] at h1 h2 h3 h4
  subst h2
  rw [fold_unz]
  exact ⟨h1, h3, unz_bounds v h4⟩
end Go.Proofs.YtiaoifodaoifjaaDoor.Pn
