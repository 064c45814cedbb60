/- A loop over an iterator that itself loops over an iterator: the iterator's contract lets the loop's facts abide the turn of any new block that is no cells; the law of such a loop whose body always goes on. No condition. -/
import Derived.RangeFuncNested
import Derived.RangeFuncBound
import Derived.RangeFuncCalls
import Derived.RangeFuncLeaves
import Derived.Shelf.Abstract
import Derived.Shelf.RegionOpen
import Derived.WalkKit
import Derived.OwnWalkIn
import Derived.TacticsInMore
import Derived.LoopNIn
import Derived.LoopIn
import Derived.Test.YtgbcogncnhbmeaaWith
set_option linter.unusedSimpArgs false
set_option linter.unusedVariables false
namespace Go.Proofs.Ytgbcogncnhbmeaa.Sb
open Go.RowKit Go.Shelf Go.Proofs.Ytgbcogncnhbmeaa.Mk Go.Proofs.Ytgbcogncnhbmeaa.Rw

/-- an iterator that yields ys, and is not stopped -/
def SeqT (n g : Nat) (lb : Array Value) (Kp : World → World → Prop) (ys : List Sib) (N : Nat) (w : World) : Prop :=
  ∀ (l : Nat) (J : List Sib → World → Prop) (W : World), Below w.heap.size w W → w.heap.size + 2 ≤ W.heap.size → OwnFrom W.heap.size J →
    (∀ pre x W1, J pre W1 → pre.length < N → YieldAt Fence.wide (n - 1) Try.prog l #[sv x] W1 fun e W' => e = .returned (.bool true) ∧ J (pre ++ [x]) W' ∧ Kp W1 W') →
    J [] W → CallsIn Fence.wide n Try.prog g (#[.func (.yield l) #[] #[]] ++ lb) W fun e W' => (∃ v, e = .returned v) ∧ J ys W'
theorem grown_of {w w' : World} (h : Below w.heap.size w w') : w.grownBy w' none := ⟨h.os, h.tape, h.output, h.size, fun k hk _ => h.block k hk⟩
/-- what a round keeps: what lay below n0, and the iterator's own blocks, from B on (its own loop's record, r, left out) -/
structure KpX (n0 B r : Nat) (W W' : World) : Prop where
  below : Below n0 W W'
  own : ∀ k, B ≤ k → k < W.heap.size → k ≠ r → W'.heap[k]? = W.heap[k]?
theorem KpX.trans {n0 B r : Nat} {X Y Z : World} (h : KpX n0 B r X Y) (k : KpX n0 B r Y Z) : KpX n0 B r X Z :=
  ⟨h.below.trans k.below, fun i hB hi hr => (k.own i hB (Nat.lt_of_lt_of_le hi h.below.size) hr).trans (h.own i hB hi hr)⟩
theorem KpX.put {n0 B r l : Nat} (hn : n0 ≤ l) (hl : l < B ∨ l = r) (W : World) (o o' : Obj) (h : W.heap[l]? = some o) : KpX n0 B r W (W.putObj l o') :=
  ⟨(Below.refl n0 W).grown (grownBy_putObj' W l o') (by have := (Array.getElem?_eq_some_iff.1 h).1; omega) (fun k e => by cases e; omega),
   fun k hk _ hr => World.putObj_heap_other (by omega)⟩
theorem KpX.of_below {n0 B r : Nat} {W W' : World} (hn : n0 ≤ W.heap.size) (h : Below W.heap.size W W') : KpX n0 B r W W' := ⟨h.mono hn, fun k _ hk _ => h.block k hk⟩
theorem KpX.of_within {n0 B r lo hi : Nat} {W W' : World} (hw : Within lo hi W W') (h1 : n0 ≤ lo) (h2 : hi ≤ B) (hn : n0 ≤ W.heap.size) : KpX n0 B r W W' :=
  ⟨hw.below h1 hn, fun k hk hz _ => hw.block k hz (by omega)⟩
theorem KpX.less {n0 B r r' : Nat} {W W' : World} (h : KpX n0 B r W W') (hr : r < B) : KpX n0 B r' W W' := ⟨h.below, fun k hk hz _ => h.own k hk hz (by omega)⟩
theorem KpX.keeps {n0 B r : Nat} {W W' : World} (h : KpX n0 B r W W') (hr : r < B) (C : Nat) (hC : B ≤ C) : KeepsFrom C W W' :=
  ⟨h.below.size, fun k o hk ho _ => (h.own k (by omega) (Array.getElem?_eq_some_iff.1 ho).1 (by omega)).trans ho⟩
theorem Cells.kp {n0 B r g : Nat} {W W' : World} {vs : List Value} (h : Cells W g vs) (hk : KpX n0 B r W W') (hg : g < n0 ∨ (B ≤ g ∧ g ≠ r)) : Cells W' g vs := by
  refine h.same ?_ hk.below.size
  rcases hg with hg | ⟨hg, hr⟩
  · exact hk.below.block g hg
  · exact hk.own g hg h.lt hr
/-- what is kept of a loop's book-keeping by a step that turns one block that is no cells, behind it -/
theorem other_kept {X Y : World} {row : Option Nat} {k B : Nat} (hk : k < B) (hz : k < X.heap.size) (hg : X.grownBy Y row) (hr : ∀ r, row = some r → B ≤ r ∧ ∃ o : Obj, X.heap[r]? = some o ∧ o.isCells = false) : Y.heap[k]? = X.heap[k]? :=
  hg.block k hz (fun e => by have := (hr k e.symm).1; omega)
theorem wpIn_rangeT {n : Nat} {g : Operand} {ps : Array Tmp} {assign body : Code} {Q : Exit → Act → World → Prop} {a : Act} {w w' : World} {gf : Nat} {lb : Array Value} {Kp : World → World → Prop} {ys : List Sib} {N : Nat}
    (hg : a.eval g = .func (.func gf) #[] lb) (eg : ∀ args w, (callFunc gf args).run Try.prog w = .ok (.enter gf args) w) (hseq : SeqT (n - 1) gf lb Kp ys N w') (hb0 : Below w'.heap.size w' w) (hps : ps.size = 1) (h1 : 1 ≤ n)
    (hKt : ∀ {A B C : World}, Kp A B → Kp B C → Kp A C) (hKb : ∀ (W : World) (o o' : Obj), W.heap[w.heap.size + 1]? = some o → Kp W (W.putObj (w.heap.size + 1) o'))
    (I : List Sib → World → Prop) (hI : OwnFrom w.heap.size I) (h0 : I [] w) (Ax : Sib → Act → World → Prop) (hAx : ∀ x a', OwnFrom w.heap.size (fun (_ : Unit) W => Ax x a' W))
    (hassign : ∀ (l : Nat) (pre : List Sib) (x : Sib) (W : World) (K : Act → World → Prop), I pre W → (∀ a' W', KeepsFrom w.heap.size W W' → Kp W W' → I pre W' → Ax x a' W' → K a' W') →
      assign.wpIn (Fence.wide.inRound l) (n - 1 - 1) Try.prog (Exit.then K (fun _ _ _ => False)) { tmps := (ps.zip #[sv x]).foldl (fun t (p, v) => t.setIfInBounds p v) a.tmps, defers := [] } W)
    (hbody : ∀ (l : Nat) (pre : List Sib) (x : Sib) (a' : Act) (W : World), I pre W → Ax x a' W → pre.length < N → body.wpIn (Fence.wide.inRound l) (n - 1 - 1) Try.prog (ownPostG w.heap.size Kp I (fun _ _ _ => False) (pre ++ [x]) W) a' W)
    (hdone : ∀ (D : Nat) (W : World), w.heap.size ≤ D → I ys W → W.heap[D]? = some (.deferred (some [])) → Q .normal { a with defers := { target := .collected D, args := #[] } :: a.defers } W) :
    (Code.rangeFunc g ps assign body).wpIn Fence.wide n Try.prog Q a w := by
  refine wpIn_rangeFunc fun fn hfn => ?_
  -- the loop's record in a state, and the world in which the iterator is entered
  let rc : LoopState → Loop := fun st => { state := st, pending := none, fn, tmps := a.tmps, params := ps, assign, body, defers := w.heap.size }
  let W1 := (w.alloc (.deferred (some []))).alloc (.loop (rc .ready))
  have z1 : W1.heap.size = w.heap.size + 1 + 1 := by simp [W1]
  have eL : W1.heap[w.heap.size + 1]? = some (.loop (rc .ready)) := by
    have := World.alloc_heap_new (w.alloc (.deferred (some []))) (.loop (rc .ready))
    rwa [World.size_alloc] at this
  have eD : W1.heap[w.heap.size]? = some (.deferred (some [])) := (Below.heap_alloc _ _ _ (by simp)).trans (World.alloc_heap_new w _)
  have i1 : I [] W1 := hI.alloc _ (hI.alloc _ h0)
  have b1 : Below w'.heap.size w' W1 := hb0.trans ((((Below.refl _ w).alloc (Nat.le_refl _) _).alloc (by simp) _).mono hb0.size)
  refine ⟨w.heap.size + 1, [{ target := .collected w.heap.size, args := #[] }], W1, { target := .fn (.func gf) lb, args := #[.func (.yield (w.heap.size + 1)) #[] #[]] }, W1, gf,
    #[.func (.yield (w.heap.size + 1)) #[] #[]] ++ lb, W1, run_enterLoop_outer _ _ _ _ _, by simp only [resolve, hg]; simp [go_sem], fun f' hf' => trivial, by simp [invoke, go_sem, eg], fun _ => h1, ?_⟩
  -- what stands between two rounds
  let J : List Sib → World → Prop := fun pre W => I pre W ∧ W.heap[w.heap.size + 1]? = some (.loop (rc .ready)) ∧ W.heap[w.heap.size]? = some (.deferred (some []))
  have hJ : OwnFrom W1.heap.size J := fun s X Y row hs hgr hr => by
    obtain ⟨ha, hb, hc⟩ := hs
    refine ⟨hI s X Y row ha hgr (fun r e => ⟨by have := (hr r e).1; omega, (hr r e).2⟩), ?_, ?_⟩
    · exact (other_kept (B := W1.heap.size) (by omega) (Array.getElem?_eq_some_iff.1 hb).1 hgr hr).trans hb
    · exact (other_kept (B := W1.heap.size) (by omega) (Array.getElem?_eq_some_iff.1 hc).1 hgr hr).trans hc
  refine (hseq (w.heap.size + 1) J W1 b1 (by have := hb0.size; omega) hJ ?_ ⟨i1, eL, eD⟩).mono ?_
  · rintro pre x W ⟨hi, hl, hk⟩ hlen
    have hy := run_yield (P := Try.prog) (args := #[sv x]) hl (by show 1 = ps.size; rw [hps])
    refine ⟨fn, _, assign, body, hy, roundIn_of_wpIn hfn (hassign _ pre x W _ hi ?_)⟩
    intro a' Wa kf kp ia ax
    have hl' := kf.same _ _ (Nat.le_succ _) hl rfl
    have hk' := kf.same _ _ (Nat.le_refl _) hk rfl
    have lt' : w.heap.size + 1 < Wa.heap.size := (Array.getElem?_eq_some_iff.1 hl').1
    refine ⟨_, run_beginRound hl' rfl, ?_⟩
    have hl2 : (Wa.putObj (w.heap.size + 1) (.loop (rc .busy))).heap[w.heap.size + 1]? = some (.loop (rc .busy)) := World.putObj_heap_same lt'
    have hk2 : (Wa.putObj (w.heap.size + 1) (.loop (rc .busy))).heap[w.heap.size]? = some (.deferred (some [])) := (World.putObj_heap_other (by omega)).trans hk'
    have kp2 : Kp Wa (Wa.putObj (w.heap.size + 1) (.loop (rc .busy))) := hKb _ _ _ hl'
    refine wpIn_mono (hbody (w.heap.size + 1) pre x a' _ (hI.putObj _ ia (Nat.le_succ _) hl' rfl) ((hAx x a').putObj (s := ()) _ ax (Nat.le_succ _) hl' rfl) hlen) ?_
    rintro e a3 W3 hp
    cases e with
    | normal =>
      obtain ⟨kf3, kp3, i3⟩ := hp
      have hl3 := kf3.same _ _ (Nat.le_succ _) hl2 rfl
      have hk3 := kf3.same _ _ (Nat.le_refl _) hk2 rfl
      exact ⟨_, _, run_endRound none hl3, rfl, ⟨hI.putObj _ i3 (Nat.le_succ _) hl3 rfl, World.putObj_heap_same (Array.getElem?_eq_some_iff.1 hl3).1, (World.putObj_heap_other (by omega)).trans hk3⟩, hKt kp (hKt (hKt kp2 kp3) (hKb _ _ _ hl3))⟩
    | ret => exact hp.2.elim
    | exit id => exact hp.2.elim
    | goto t => exact hp.2.elim
    | panic ch => exact hp.elim
    | outgrown => exact hp.elim
  · rintro e W2 ⟨⟨v, rfl⟩, hi, hl, hk⟩
    exact ⟨none, _, run_endLoop hl (by simp [rc]), hdone _ _ (Nat.le_refl _) (hI.putObj _ hi (Nat.le_succ _) hl rfl) ((World.putObj_heap_other (by omega)).trans hk)⟩
end Go.Proofs.Ytgbcogncnhbmeaa.Sb
