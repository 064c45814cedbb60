/- impl.collected: what an iterator yields, put in its place one behind the other. Condition: at most 1000 rounds. -/
import Derived.Test.YtgbcogncnhbmeaaIter
import Derived.Test.YtgbcogncnhbmeaaInsMath
set_option linter.unusedSimpArgs false
set_option linter.unusedVariables false
namespace Go.Proofs.Ytgbcogncnhbmeaa.Sb
open Go.RowKit Go.Shelf Go.Proofs.Ytgbcogncnhbmeaa.Mk Go.Proofs.Ytgbcogncnhbmeaa.Rw
attribute [local go_sem] Oper.semAt_some

/-- a turn of one block that is no cells leaves cells as they lie -/
theorem block_kept {W W' : World} {row : Option Nat} {g i : Nat} {v : Value} (h : W.cell? ⟨g, i, none⟩ = some v) (hg : W.grownBy W' row)
    (hr : ∀ r, row = some r → ∃ o : Obj, W.heap[r]? = some o ∧ o.isCells = false) : W'.heap[g]? = W.heap[g]? := by
  refine hg.block g (by simpa using World.block_lt_of_cell? W _ h) (fun e => ?_)
  obtain ⟨o, ho, hc⟩ := hr g e.symm
  have h2 := h
  unfold World.cell? at h2
  simp only [ho] at h2
  cases o <;> simp_all [Obj.isCells]
theorem Cells.turn {W W' : World} {row : Option Nat} {g : Nat} {vs : List Value} (h : Cells W g vs) (h0 : 0 < vs.length) (hg : W.grownBy W' row)
    (hr : ∀ r, row = some r → ∃ o : Obj, W.heap[r]? = some o ∧ o.isCells = false) : Cells W' g vs := h.same (block_kept (h.cell 0 h0) hg hr) hg.size
theorem SOwnIn.turn {W W' : World} {row : Option Nat} {lo : Nat} {a : Option Addr} {l : List Sib} (h : SOwnIn W lo W.heap.size a l) (hg : W.grownBy W' row)
    (hr : ∀ r, row = some r → ∃ o : Obj, W.heap[r]? = some o ∧ o.isCells = false) : SOwnIn W' lo W'.heap.size a l := by
  rcases h with h | ⟨g, ha, h1, h2, ho⟩
  · exact .inl h
  · by_cases hl : l = []
    · exact .inl hl
    · have h0 : 0 < l.length := List.length_pos_iff.2 hl
      exact .inr ⟨g, ha, h1, Nat.lt_of_lt_of_le h2 hg.size, ho.same (block_kept (ho.cell 0 h0 0 (by decide)) hg hr)⟩
theorem keepsFrom_below {B : Nat} {W W' : World} (h : Below W.heap.size W W') : KeepsFrom B W W' :=
  ⟨h.size, fun k o _ hk _ => (h.block k (Array.getElem?_eq_some_iff.1 hk).1).trans hk⟩
/-- what collected has in its variables when pre has come: the list at block L, the result's place R -/
def ColI (w : World) (L : Nat) (pre : List Sib) (W : World) : Prop :=
  (∃ a c, Cells W L [.slice a (collect pre).length c, .func (.func 113) #[] #[]] ∧ Cells W w.heap.size [.slice none 0 0, Value.nilFunc] ∧ Head a (collect pre).length c ∧ SOwnIn W (L + 1) W.heap.size a (collect pre)) ∧ Below w.heap.size w W
theorem colI_own (w : World) (L B : Nat) (hB : w.heap.size ≤ B) : OwnFrom B (ColI w L) := fun s X Y row hs hg hr => by
  obtain ⟨⟨a, c, h1, h2, h3, h4⟩, h5⟩ := hs
  have hr' : ∀ r, row = some r → ∃ o : Obj, X.heap[r]? = some o ∧ o.isCells = false := fun r e => (hr r e).2
  exact ⟨⟨a, c, Cells.turn h1 (by simp) hg hr', Cells.turn h2 (by simp) hg hr', h3, SOwnIn.turn h4 hg hr'⟩, h5.grown hg h5.size (fun k e => Nat.le_trans hB (hr k e).1)⟩
set_option maxRecDepth 100000 in
set_option maxHeartbeats 4000000 in
theorem collected_in (n gf : Nat) (lb : Array Value) (ys : List Sib) (N : Nat) (w : World) (hn : 6 ≤ n) (hN : N ≤ 1000) (eg : ∀ args w, (callFunc gf args).run Try.prog w = .ok (.enter gf args) w)
    (hseq : ∀ W0, Below w.heap.size w W0 → SeqT (n - 1) gf lb (KpX w.heap.size (W0.heap.size + 2) 0) ys N W0) :
    CallsIn Fence.wide n Try.prog 55 #[.func (.func gf) #[] lb] w fun e w' => ∃ a c, e = .returned (.agg #[.slice a (collect ys).length c, .func (.func 113) #[] #[]]) ∧ Head a (collect ys).length c ∧ SOwnIn w' w.heap.size w'.heap.size a (collect ys) ∧ Below w.heap.size w w' := by
  have h1 : 1 ≤ n := by omega
  refine callsIn_of_wp_marks Try.func55 rfl trivial ?_ rfl
  simp only [Try.ntmps55, List.size_toArray, List.length_cons, List.length_nil, Nat.reduceAdd, Nat.reduceSub, Array.replicate_succ, Array.replicate_zero, List.push_toArray, List.append_toArray, List.nil_append, List.cons_append]
  gi_wp2_with (refine ⟨trivial, ?_⟩; gi_at_call 77; refine (callsIn_wide.2 (sortedSibs _ _ _ _)).mono ?_; rintro e w1 ⟨rfl, hb1⟩; unfold ordF)
  obtain ⟨W0, hW0⟩ : ∃ W0, w1.alloc (.cells #[.slice none 0 0, .func (.func 113) #[] #[]] 82) = W0 := ⟨_, rfl⟩
  have cR := (Cells.new w #[.slice none 0 0, Value.nilFunc] 82).below hb1
  have cL := Cells.new w1 #[.slice none 0 0, .func (.func 113) #[] #[]] 82
  have hb2 := step_alloc w1 (.cells #[.slice none 0 0, .func (.func 113) #[] #[]] 82)
  replace cR := cR.below hb2
  have hsz1 : w.heap.size < w1.heap.size := by have := hb1.size; simp at this; omega
  have hB0 : Below w.heap.size w W0 := by
    rw [← hW0]
    exact ((step_alloc w _).trans (hb1.mono (by simp))).trans (hb2.mono (by omega))
  have hsz : W0.heap.size = w1.heap.size + 1 := by rw [← hW0]; simp
  rw [hW0] at cR cL hb2 ⊢
  simp only [List.toList_toArray] at cR cL
  clear hW0
  obtain ⟨L, hL⟩ : ∃ L, w1.heap.size = L := ⟨_, rfl⟩
  rw [hL] at cL hsz hsz1 ⊢
  clear hb1 hb2
  refine wpIn_rangeT (gf := gf) (lb := lb) rfl eg (hseq W0 hB0) (Below.refl _ _) rfl h1 KpX.trans (KpX.put (by have := hB0.size; omega) (by omega))
    (ColI w L) (colI_own w L _ hB0.size)
    ⟨⟨none, 0, cL, cR, .inl ⟨rfl, rfl, rfl⟩, .inl rfl⟩, hB0⟩
    (fun x a' W => ∃ Bx, L < Bx ∧ Cells W Bx [.int .i64 x.1.1, .int .i64 x.1.2, .bool x.2.1, .string x.2.2] ∧ a' = { tmps := #[.func (.func gf) #[] lb, undef, .pointer (some ⟨w.heap.size, 0, none⟩), .pointer (some ⟨L, 0, none⟩), .pointer (some ⟨Bx, 0, none⟩),
          .agg #[.slice none 0 0, .func (.func 113) #[] #[]], .func (.func gf) #[] lb, sv x, undef, undef, undef, undef], defers := [] })
    (fun x a' _ X Y row hs hg hr => by obtain ⟨Bx, h1, h2, h3⟩ := hs; exact ⟨Bx, h1, Cells.turn h2 (by simp) hg (fun r e => (hr r e).2), h3⟩)
    ?assign ?body ?done
  case assign =>
    rintro l pre x W K hI hK
    have hI' := hI
    obtain ⟨⟨a, c, c1, c2, c3, c4⟩, hB1⟩ := hI
    obtain ⟨⟨tn, tm⟩, tg, td⟩ := x
    have hb := step_alloc W (.cells #[.int .i64 tn, .int .i64 tm, .bool tg, .string td] 48)
    unfold sv at hK ⊢
    gi_wp2
    refine hK _ _ (keepsFrom_below hb) (KpX.of_below hB1.size hb) (colI_own w L w.heap.size (Nat.le_refl _) pre W _ none hI' (grown_of hb) (fun r e => by cases e)) ⟨W.heap.size, c1.lt, ?_, rfl⟩
    exact Cells.new W #[.int .i64 tn, .int .i64 tm, .bool tg, .string td] 48
  case body =>
    rintro l pre x a' W hI ⟨Bx, hBx, bX, rfl⟩ hlt
    have hI' := hI
    obtain ⟨⟨a, c, c1, c2, c3, c4⟩, hB1⟩ := hI
    obtain ⟨⟨tn, tm⟩, tg, td⟩ := x
    have h1' : 1 ≤ n - 1 - 1 := by omega
    obtain ⟨x0, x1, x2, x3, _⟩ := bX.c4
    obtain ⟨y0, y1, f0, f1⟩ := c1.c2
    have hlen : (collect pre).length ≤ 1000 := by rw [collect_length]; omega
    gi_wp2_with (refine ⟨trivial, ?_⟩; gi_at_call 57; refine (CallsIn.inRound l (callsIn_wide.2 (with_ a c (collect pre) ((tn, tm), tg, td) W hlen c3 (collect_mono pre [] (by intro k hk; simp at hk)) c4.at_))).mono ?_; rintro e w2 ⟨a2, c5, rfl, hh2, ho2, hb2⟩; unfold ordF; clear y0 y1 f0 f1 x0 x1 x2 x3; have c1' := c1.below hb2; obtain ⟨y0, y1, f0, f1⟩ := c1'.c2)
    have hw := (one_store w2 L 0 (.slice a2 (ins (collect pre) ((tn, tm), tg, td)).length c5)).trans (one_store _ L 1 (.func (.func 113) #[] #[]))
    have d1 := (c1'.set 0 (by simp) (.slice a2 (ins (collect pre) ((tn, tm), tg, td)).length c5)).set 1 (by simp) (.func (.func 113) #[] #[])
    have d2 := (c2.below hb2).within hw (by omega)
    have hWL : L < W.heap.size := c1.lt
    have o2 := (show SOwnIn _ W.heap.size w2.heap.size a2 (ins (collect pre) ((tn, tm), tg, td)) from ho2.same (hw.same (Nat.le_refl _) (by omega)))
    have hz : (((w2.setCell ⟨L, 0, none⟩ (.slice a2 (ins (collect pre) ((tn, tm), tg, td)).length c5)).setCell ⟨L, 1, none⟩ (.func (.func 113) #[] #[])).heap.size) = w2.heap.size := by rw [size_set, size_set]
    have hB2 : Below w.heap.size W w2 := hb2.mono hB1.size
    have hB3 := (hB2.setCell (p := ⟨L, 0, none⟩) (by simp; omega) (.slice a2 (ins (collect pre) ((tn, tm), tg, td)).length c5)).setCell (p := ⟨L, 1, none⟩) (by simp; omega) (.func (.func 113) #[] #[])
    refine ⟨(keepsFrom_below hb2).trans (((KeepsOthers.setCell _ _ _).trans (KeepsOthers.setCell _ _ _)).from _), (KpX.of_below hB1.size hb2).trans (KpX.of_within hw (by omega) (by omega) (by have := hb2.size; omega)), ⟨a2, c5, ?_, d2, ?_, ?_⟩, hB1.trans hB3⟩
    · rw [collect_snoc]; simpa using d1
    · rw [collect_snoc]; exact hh2
    · rw [collect_snoc]
      exact o2.wide (by omega) (by rw [hz]; exact Nat.le_refl _)
  case done =>
    rintro D W hD ⟨⟨a, c, c1, c2, c3, c4⟩, hB1⟩ hK
    obtain ⟨y0, y1, f0, f1⟩ := c1.c2
    obtain ⟨z0, z1, e0, e1⟩ := c2.c2
    gi_wp2
    have hw := (one_store W w.heap.size 0 (.slice a (collect ys).length c)).trans (one_store _ w.heap.size 1 (.func (.func 113) #[] #[]))
    have d2 := (c2.set 0 (by simp) (.slice a (collect ys).length c)).set 1 (by simp) (.func (.func 113) #[] #[])
    have o2 := (show SOwnIn _ (L + 1) W.heap.size a (collect ys) from c4.same (hw.same (Nat.le_refl _) (by omega)))
    have hB2 := (hB1.setCell (p := ⟨w.heap.size, 0, none⟩) (by simp) (.slice a (collect ys).length c)).setCell (p := ⟨w.heap.size, 1, none⟩) (by simp) (.func (.func 113) #[] #[])
    have hK2 := ((KeepsOthers.setCell W ⟨w.heap.size, 0, none⟩ (.slice a (collect ys).length c)).trans (KeepsOthers.setCell _ ⟨w.heap.size, 1, none⟩ (.func (.func 113) #[] #[]))).same D _ hK rfl
    have hz : (((W.setCell ⟨w.heap.size, 0, none⟩ (.slice a (collect ys).length c)).setCell ⟨w.heap.size, 1, none⟩ (.func (.func 113) #[] #[])).heap.size) = W.heap.size := by rw [size_set, size_set]
    generalize ((W.setCell ⟨w.heap.size, 0, none⟩ (.slice a (collect ys).length c)).setCell ⟨w.heap.size, 1, none⟩ (.func (.func 113) #[] #[])) = W2 at d2 o2 hB2 hK2 hz ⊢
    have hg := grownBy_putObj' W2 D (.deferred none)
    have hr' : ∀ r, some D = some r → ∃ o : Obj, W2.heap[r]? = some o ∧ o.isCells = false := fun r e => by cases e; exact ⟨_, hK2, rfl⟩
    have d3 := Cells.turn d2 (by simp) hg hr'
    rw [← hz] at o2
    have o3 := SOwnIn.turn o2 hg hr'
    have hB3 : Below w.heap.size w (W2.putObj D (.deferred none)) := hB2.grown hg hB2.size (fun k e => by cases e; have := hB0.size; omega)
    refine ⟨by simp, .inl ⟨_, _, rfl, run_takeDeferred hK2, ?_⟩⟩
    obtain ⟨q0, q1, _⟩ := (show Cells _ _ [.slice a (collect ys).length c, .func (.func 113) #[] #[]] from d3).c2
    refine ⟨.agg #[.slice a (collect ys).length c, .func (.func 113) #[] #[]], by simp [results, Try.results55, go_sem, q0, q1], ?_⟩
    exact ⟨a, c, rfl, c3, o3.wide (by omega) (Nat.le_refl _), hB3⟩
/-- impl.unseen: the iterator's value -/
theorem unseen_ (a am : Option Addr) (n nm cap capm : Nat) (w : World) :
    Calls Try.prog 56 #[.slice a n cap, .slice am nm capm] w fun e w' => e = .returned (.func (.func 98) #[] #[.pointer (some ⟨w.heap.size, 0, none⟩), .pointer (some ⟨w.heap.size + 1, 0, none⟩)]) ∧
      Cells w' w.heap.size [.slice a n cap] ∧ Cells w' (w.heap.size + 1) [.slice am nm capm] ∧ Below w.heap.size w w' := by
  go_enter Try.func56, Try.ntmps56
  go_wp2
  go_ret
  have hb := step_alloc w (.cells #[.slice a n cap] 24)
  have hb2 := step_alloc (w.alloc (.cells #[.slice a n cap] 24)) (.cells #[.slice am nm capm] 23)
  have c0 := Cells.new (w.alloc (.cells #[.slice a n cap] 24)) #[.slice am nm capm] 23
  rw [World.size_alloc] at c0
  exact ⟨rfl, (Cells.new w #[.slice a n cap] 24).below hb2, c0, hb.trans (hb2.mono (by simp))⟩
end Go.Proofs.Ytgbcogncnhbmeaa.Sb
