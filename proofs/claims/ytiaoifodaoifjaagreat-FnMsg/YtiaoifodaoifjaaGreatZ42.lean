/- Parts of a law: SetDraw2. Conditions: on sizes, as each says. -/
import Derived.Test.YtiaoifodaoifjaaGreatZ1
import Derived.Deep.AppendLies
import Derived.Deep.OwnRows
import Derived.Test.YtiaoifodaoifjaaGreatZ41
import Derived.Test.YtiaoifodaoifjaaGreatZ22
import Derived.Test.YtiaoifodaoifjaaGreatZ2
set_option linter.unusedSimpArgs false
set_option linter.unusedVariables false
namespace Go.Proofs.YtiaoifodaoifjaaGreat.Sb
open Go.RowKit Go.Proofs.YtiaoifodaoifjaaGreat.Mk Go.Proofs.YtiaoifodaoifjaaGreat.Rw Go.Proofs.YtiaoifodaoifjaaGreat.Dr
structure XSt (w wr : World) (B g Xb : Nat) (vb : Value) (R : SR) : Prop where
  res : Cells wr w.heap.size [.slice none 0 0, .slice none 0 0]
  x : Cells wr Xb [R.va, vb]
  m : ∃ lo hi, OwnI wr lo hi R.a R.l ∧ w.heap.size + 1 ≤ lo ∧ (hi ≤ Xb ∨ Xb < lo)
  r : ∃ lo hi, ROwnI 4 senc wr lo hi R.b R.s ∧ w.heap.size + 1 ≤ lo ∧ (hi ≤ Xb ∨ Xb < lo)
  ok : Fine R.l R.s
  dj : R.l = [] ∨ ∀ p q, R.a = some p → R.b = some q → R.s ≠ [] → p.block ≠ q.block
  nz : R.s = [] → R.b = none
  src : HasSrc wr B g
  wi : Within g (g + 1) w wr
  gT : g < w.heap.size
  wX : w.heap.size < Xb
section
variable {w wr w' : World} {B g Xb : Nat} {vb : Value} {R : SR}
theorem XSt.big (h : XSt w wr B g Xb vb R) : w.heap.size + 1 ≤ wr.heap.size := by have := h.x.lt; have := h.wX; omega
theorem XSt.below (h : XSt w wr B g Xb vb R) (hb : Below wr.heap.size wr w') : XSt w w' B g Xb vb R := by
  obtain ⟨lo, hi, h1, h2, h3⟩ := h.m
  obtain ⟨lo', hi', h4, h5, h6⟩ := h.r
  exact ⟨h.res.below hb, h.x.below hb, ⟨lo, hi, h1.below hb, h2, h3⟩, ⟨lo', hi', h4.below hb, h5, h6⟩, h.ok, h.dj, h.nz, h.src.below hb, h.wi.onto hb, h.gT, h.wX⟩
theorem XSt.drawn (h : XSt w wr B g Xb vb R) (hs : HasSrc w' B g) (hw : Within g (g + 1) wr w') : XSt w w' B g Xb vb R := by
  have hg := h.gT
  have hX := h.wX
  obtain ⟨lo, hi, h1, h2, h3⟩ := h.m
  obtain ⟨lo', hi', h4, h5, h6⟩ := h.r
  exact ⟨h.res.within hw (by omega), h.x.within hw (by omega), ⟨lo, hi, h1.within hw (by omega), h2, h3⟩, ⟨lo', hi', h4.within hw (by omega), h5, h6⟩, h.ok, h.dj, h.nz, hs, h.wi.trans hw, h.gT, h.wX⟩
theorem XSt.putM {lo hi : Nat} {a : Option Addr} {ac : Nat} {l : List (Int × Int)} (h : XSt w wr B g Xb vb R) (hm : OwnI wr lo hi a l) (h1 : Xb < lo) (h6 : l.length ≤ 6) (hd : ∀ q, R.b = some q → R.s ≠ [] → q.block < lo) :
    XSt w (wr.setCell ⟨Xb, 0, none⟩ (.slice a l.length ac)) B g Xb vb ⟨a, ac, l, R.b, R.bc, R.s⟩ := by
  have hw := one_store wr Xb 0 (.slice a l.length ac)
  have hg := h.gT
  have hX := h.wX
  have hl := h.src.lt
  obtain ⟨lo', hi', h4, h5, h7⟩ := h.r
  refine ⟨h.res.within hw (by omega), h.x.set 0 (by simp) _, ⟨lo, hi, hm.within hw (by omega), by omega, .inr h1⟩, ⟨lo', hi', h4.within hw (by omega), h5, h7⟩, ⟨h6, h.ok.s9, h.ok.d, h.ok.wf⟩, ?_, h.nz, h.src.within hw (by omega) (by omega), h.wi.new hw (by omega), h.gT, h.wX⟩
  rcases hm.1 with h0 | ⟨k, h8, h9, h10, _⟩
  · exact .inl h0
  · refine .inr fun p q hp hq hs => ?_
    have := hd q hq hs
    simp only at hp
    rw [h8] at hp
    cases hp
    simp only; omega
theorem XSt.putS {va : Value} (h : XSt w wr B g Xb va R) : XSt w (wr.setCell ⟨Xb, 1, none⟩ R.vb) B g Xb R.vb R := by
  have hw := one_store wr Xb 1 R.vb
  have hg := h.gT
  have hX := h.wX
  have hl := h.src.lt
  obtain ⟨lo, hi, h1, h2, h3⟩ := h.m
  obtain ⟨lo', hi', h4, h5, h7⟩ := h.r
  exact ⟨h.res.within hw (by omega), h.x.set 1 (by simp) _, ⟨lo, hi, h1.within hw (by omega), h2, h3⟩, ⟨lo', hi', h4.within hw (by omega), h5, h7⟩, h.ok, h.dj, h.nz, h.src.within hw (by omega) (by omega), h.wi.new hw (by omega), h.gT, h.wX⟩
theorem own_blk {R : SR} {k : Nat} (h : R.vb.ownBlock = some k) : ∃ p, R.b = some p ∧ p.block = k := by
  obtain ⟨a, ac, l, b, bc, s⟩ := R
  cases b with
  | none => cases h
  | some p => exact ⟨p, rfl, by simpa [SR.vb, Value.ownBlock] using h⟩
theorem XSt.appended {g6 c6 : Nat} {x : Sib} (h : XSt w wr B g Xb vb R) (hX6 : g6 ≠ Xb) (hr : wr.grownBy w' R.vb.ownBlock) (hB : Below (w.heap.size + 1) wr w') (hor : R.vb.ownBlock = some g6 ∨ g6 = wr.heap.size) (hoX : ∀ k, R.vb.ownBlock = some k → w.heap.size + 1 ≤ k ∧ k ≠ Xb)
    (ho : w'.ownsRow (w.heap.size + 1) 94 4 (.slice (some ⟨g6, 0, none⟩) (R.s.length + 1) c6) (R.s ++ [x]).length (flatE 4 senc (R.s ++ [x]))) (hx : x.2.2.size ≤ 17 ∧ (Lit.int .i64 x.1.1).wf = true) (hs8 : R.s.length ≤ 8) :
    XSt w w' B g Xb vb ⟨R.a, R.ac, R.l, some ⟨g6, 0, none⟩, c6, R.s ++ [x]⟩ := by
  have hg := h.gT
  have hX := h.wX
  have hl := h.src.lt
  obtain ⟨lo, hi, h1, h2, h3⟩ := h.m
  obtain ⟨lo', hi', h4, h5, h7⟩ := h.r
  have hblk : ∀ k, R.vb.ownBlock = some k → R.s ≠ [] := fun k hk h0 => by
    obtain ⟨p, hp, _⟩ := own_blk hk
    rw [h.nz h0] at hp; cases hp
  have hmk : ∀ k, lo ≤ k → k < hi → R.l ≠ [] → (∀ p, R.a = some p → p.block = k → w'.heap[k]? = wr.heap[k]?) := by
    intro k h8 h9 hne p hp hpk
    refine hr.block k (by have := h1.2; omega) (fun e => ?_)
    rcases h.dj with h0 | hd
    · exact hne h0
    · obtain ⟨q, hq, hqk⟩ := own_blk e.symm
      exact hd p q hp hq (hblk k e.symm) (by omega)
  have hxk := hr.block Xb h.x.lt (fun e => (hoX Xb e.symm).2 rfl)
  refine ⟨h.res.same (hB.block _ (by omega)) hB.size, h.x.same hxk hr.size, ⟨lo, hi, ⟨?_, Nat.le_trans h1.2 hr.size⟩, h2, h3⟩, ?_, ⟨h.ok.l6, by simp; omega, fun y hy => ?_, fun y hy => ?_⟩, ?_, fun h0 => by simp at h0, ?_, ?_, hg, hX⟩
  · rcases h1.1 with h0 | ⟨k, h8, h9, h10, h11⟩
    · exact .inl h0
    · by_cases hne : R.l = []
      · exact .inl hne
      · exact .inr ⟨k, h8, h9, h10, h11.same (hmk k h9 h10 hne _ h8 rfl)⟩
  · obtain ⟨a, cap, hv, hrow⟩ := own_row (by decide) ho
    injection hv with ha hn hc
    subst ha
    rcases hrow with h0 | ⟨k, h8, h9, h10, h11⟩
    · simp at h0
    · cases h8
      exact ⟨g6, g6 + 1, ⟨.inr ⟨g6, rfl, Nat.le_refl _, Nat.lt_succ_self _, h11⟩, h10⟩, h9, by omega⟩
  · rcases List.mem_append.1 hy with hy | hy
    · exact h.ok.d y hy
    · rw [List.mem_singleton] at hy; subst hy; exact hx.1
  · rcases List.mem_append.1 hy with hy | hy
    · exact h.ok.wf y hy
    · rw [List.mem_singleton] at hy; subst hy; exact hx.2
  · by_cases hne : R.l = []
    · exact .inl hne
    · refine .inr fun p q hp hq _ => ?_
      simp only at hq
      cases hq
      rcases hor with e | e
      · rcases h.dj with h0 | hd
        · exact absurd h0 hne
        · obtain ⟨q', hq', hqk⟩ := own_blk e
          have := hd p q' hp hq' (hblk g6 e)
          simp only; omega
      · rcases h1.1 with h0 | ⟨k, h8, h9, h10, _⟩
        · exact absurd h0 hne
        · simp only at hp
          rw [h8] at hp; cases hp
          have := h1.2
          simp only; omega
  · exact hasSrc_same h.src (fun k hk ho => hB.block k (by omega))
  · exact ⟨hB.os.trans h.wi.os, hB.tape.trans h.wi.tape, hB.output.trans h.wi.output, Nat.le_trans h.wi.size hB.size, fun k hk ho => (hB.block k (by omega)).trans (h.wi.block k hk ho)⟩
theorem XSt.turned {gb : Nat} {y : Sib} {i : Nat} {u : Value} (h : XSt w wr B g Xb R.vb R) (hb : R.b = some ⟨gb, 0, none⟩) (h0 : 0 < R.s.length) (hi4 : i < 4) (hu : senc y i = u) (hy : ∀ j, j < 4 → j ≠ i → senc y j = senc R.s[0] j) (hyd : y.2.2.size ≤ 17) (hyw : y.1.1 = R.s[0].1.1) :
    XSt w (wr.setCell ⟨gb, i, none⟩ u) B g Xb (SR.vb ⟨R.a, R.ac, R.l, R.b, R.bc, R.s.set 0 y⟩) ⟨R.a, R.ac, R.l, R.b, R.bc, R.s.set 0 y⟩ := by
  have hg := h.gT
  have hX := h.wX
  have hl := h.src.lt
  have hne : R.s ≠ [] := List.length_pos_iff.1 h0
  have hw := one_store wr gb i u
  obtain ⟨lo, hi, h1, h2, h3⟩ := h.m
  obtain ⟨lo', hi', h4, h5, h7⟩ := h.r
  rcases h4.1 with h8 | ⟨k, h8, h9, h10, h11⟩
  · exact absurd h8 hne
  rw [hb] at h8
  cases h8
  have ev : SR.vb ⟨R.a, R.ac, R.l, R.b, R.bc, R.s.set 0 y⟩ = R.vb := by simp [SR.vb]
  rw [ev]
  have hmem : ∀ z ∈ R.s.set 0 y, z ∈ R.s ∨ z = y := fun z hz => by
    rcases List.mem_or_eq_of_mem_set hz with h | h
    · exact .inl h
    · exact .inr h
  refine ⟨h.res.within hw (by omega), h.x.within hw (by omega), ⟨lo, hi, ⟨?_, Nat.le_trans h1.2 hw.size⟩, h2, h3⟩, ⟨lo', hi', ⟨.inr ⟨gb, hb, h9, h10, ?_⟩, Nat.le_trans h4.2 hw.size⟩, h5, h7⟩, ⟨h.ok.l6, by simp; exact h.ok.s9, fun z hz => ?_, fun z hz => ?_⟩, ?_, fun h0 => by simp at h0; exact absurd h0 hne, h.src.within hw (by omega) (by omega), h.wi.new hw (by omega), hg, hX⟩
  · rcases h1.1 with h0 | ⟨k, h12, h13, h14, h15⟩
    · exact .inl h0
    · by_cases hl0 : R.l = []
      · exact .inl hl0
      · refine .inr ⟨k, h12, h13, h14, h15.same (hw.block k (by have := h1.2; omega) ?_)⟩
        rcases h.dj with hd | hd
        · exact absurd hd hl0
        · have := hd _ _ h12 hb hne
          simp only at this
          omega
  · refine h11.put 0 y (fun j hj => ?_) (fun o ho => ?_) (fun j => by rw [World.frozen?_setCell])
    · by_cases e : j = i
      · subst e; rw [hu]; simpa using World.cell?_setCell_same _ _ _ (by simpa using h11.cell 0 h0 j hj)
      · rw [Nat.zero_mul, Nat.zero_add, World.cell?_setCell_other _ _ _ _ (Go.Proofs.YtiaoifodaoifjaaGreat.Mk.ne_off (Ne.symm e)), hy j hj e]
        simpa using h11.cell 0 h0 j hj
    · exact World.cell?_setCell_other _ _ _ _ (Go.Proofs.YtiaoifodaoifjaaGreat.Mk.ne_off (by omega))
  · rcases hmem z hz with hz | rfl
    · exact h.ok.d z hz
    · exact hyd
  · rcases hmem z hz with hz | rfl
    · exact h.ok.wf z hz
    · rw [hyw]; exact h.ok.wf _ (List.getElem_mem h0)
  · rcases h.dj with hd | hd
    · exact .inl hd
    · exact .inr fun p q hp hq _ => hd p q hp hq hne
theorem XSt.xs (h : XSt w wr B g Xb R.vb R) : XSt w wr B g Xb R.vb R := h
end
theorem own_pair (w : World) (x y : Int) : Go.Proofs.YtiaoifodaoifjaaGreat.Mk.Own (w.alloc (.cells #[.int .i64 x, .int .i64 y] 63)) w.heap.size [(x, y)] where
  cell0 := fun i hi => by
    have : i = 0 := by simpa using hi
    subst this; rw [World.cell?_alloc_mark]; rfl
  cell1 := fun i hi => by
    have : i = 0 := by simpa using hi
    subst this; rw [World.cell?_alloc_mark]; rfl
  free := fun j => by rw [World.frozen?_alloc_mark]; simp
structure XL (w wr : World) (B g Xb M : Nat) (v : Value) (S : List Sib) : Prop where
  res : Cells wr w.heap.size [.slice none 0 0, .slice none 0 0]
  x : Cells wr Xb [.slice (some ⟨M, 0, none⟩) 1 1, v]
  m : Go.Proofs.YtiaoifodaoifjaaGreat.Mk.Own wr M [(4, 9)]
  o : wr.ownsRow (M + 1) 94 4 v S.length (flatE 4 senc S)
  ok : ∀ y ∈ S, y.2.2.size ≤ 17 ∧ (Lit.int .i64 y.1.1).wf = true
  src : HasSrc wr B g
  wi : Within g (g + 1) w wr
  gT : g < w.heap.size
  wX : w.heap.size < Xb
  xM : Xb < M
  Ml : M < wr.heap.size
section
variable {w wr w' : World} {B g Xb M : Nat} {v v' : Value} {S S' : List Sib}
theorem XL.next (h : XL w wr B g Xb M v S) (hb : Below (M + 1) wr w') (ho : w'.ownsRow (M + 1) 94 4 v' S'.length (flatE 4 senc S')) (hok : ∀ y ∈ S', y.2.2.size ≤ 17 ∧ (Lit.int .i64 y.1.1).wf = true) : XL w (w'.setCell ⟨Xb, 1, none⟩ v') B g Xb M v' S' := by
  have hw := one_store w' Xb 1 v'
  have hg := h.gT
  have hX := h.wX
  have hM := h.xM
  have hMl := h.Ml
  have hl := h.src.lt
  have hbs := hb.size
  have hs2 : HasSrc w' B g := hasSrc_same h.src (fun k hk ho => hb.block k (by omega))
  have hwi : Within g (g + 1) w w' := ⟨hb.os.trans h.wi.os, hb.tape.trans h.wi.tape, hb.output.trans h.wi.output, Nat.le_trans h.wi.size hb.size, fun k hk ho => (hb.block k (by omega)).trans (h.wi.block k hk ho)⟩
  exact ⟨(h.res.same (hb.block _ (by omega)) hb.size).within hw (by omega), (h.x.same (hb.block _ (by omega)) hb.size).set 1 (by simp) v', (h.m.same (hb.block _ (by omega))).same (hw.block _ (by omega) (by omega)), own_within ho hw (by omega), hok, hs2.within hw (by omega) (by omega), hwi.new hw (by omega), hg, hX, hM, by have := hw.size; omega⟩
end
section
variable {w wr w' : World} {B g Xb M : Nat} {v vb : Value} {S : List Sib} {R : SR}
theorem XL.start (h : XSt w wr B g Xb vb R) : XL w (((wr.alloc (.cells #[.int .i64 4, .int .i64 9] 63)).setCell ⟨Xb, 0, none⟩ (.slice (some ⟨wr.heap.size, 0, none⟩) 1 1)).setCell ⟨Xb, 1, none⟩ (.slice none 0 0)) B g Xb wr.heap.size (.slice none 0 0) [] := by
  have hb := step_alloc wr (.cells #[.int .i64 4, .int .i64 9] 63)
  have h1 := h.below hb
  have hw : Within Xb (Xb + 1) (wr.alloc (.cells #[.int .i64 4, .int .i64 9] 63)) (((wr.alloc (.cells #[.int .i64 4, .int .i64 9] 63)).setCell ⟨Xb, 0, none⟩ (.slice (some ⟨wr.heap.size, 0, none⟩) 1 1)).setCell ⟨Xb, 1, none⟩ (.slice none 0 0)) :=
    (one_store _ Xb 0 _).trans (one_store _ Xb 1 _)
  have hg := h.gT
  have hX := h.wX
  have hXl := h.x.lt
  have hl := h.src.lt
  have hz : (wr.alloc (.cells #[.int .i64 4, .int .i64 9] 63)).heap.size = wr.heap.size + 1 := by simp
  exact ⟨h1.res.within hw (by omega), (h1.x.set 0 (by simp) _).set 1 (by simp) _, (own_pair wr 4 9).same (hw.block _ (by omega) (by omega)), World.ownsRow_nil _ _ _ _, fun y hy => by simp at hy, h1.src.within hw (by omega) (by omega), h1.wi.new hw (by omega), hg, hX, hXl, by have := hw.size; omega⟩
theorem XL.fin (h : XL w wr B g Xb M v S) (h8 : S.length = 8) : ∃ R : SR, XSt w wr B g Xb R.vb R := by
  have hX := h.wX
  have hM := h.xM
  have hMl := h.Ml
  have ho := h.o
  obtain ⟨qa, qc, hv, hh, hs⟩ := own_head ho
  refine ⟨⟨some ⟨M, 0, none⟩, 1, [(4, 9)], qa, qc, S⟩, h.res, ?_, ⟨M, M + 1, ⟨.inr ⟨M, rfl, Nat.le_refl _, Nat.lt_succ_self _, h.m⟩, hMl⟩, by omega, .inr hM⟩, ⟨M + 1, wr.heap.size, ⟨hs, Nat.le_refl _⟩, by omega, .inr (by omega)⟩, ⟨by simp, by simp only; omega, fun y hy => (h.ok y hy).1, fun y hy => (h.ok y hy).2⟩, .inr fun p q hp hq hne => ?_, fun h0 => ?_, h.src, h.wi, h.gT, hX⟩
  · have := h.x; rw [hv] at this; exact this
  · simp only at hp hq
    cases hp
    rcases hs with h0 | ⟨k, h1, h2, _, _⟩
    · exact absurd h0 hne
    · rw [h1] at hq; cases hq; simp only; omega
  · simp only at h0; rw [h0] at h8; cases h8
end
def GotSet (w : World) (B g : Nat) (e : Ending) (w' : World) : Prop :=
  ∃ R : SR, e = .returned (.agg #[R.va, R.vb]) ∧ (∃ lo hi, OwnI w' lo hi R.a R.l ∧ w.heap.size ≤ lo) ∧ (∃ lo hi, ROwnI 4 senc w' lo hi R.b R.s ∧ w.heap.size ≤ lo) ∧ Fine R.l R.s ∧ HasSrc w' B g ∧ Within g (g + 1) w w'
set_option maxRecDepth 100000 in
set_option maxHeartbeats 8000000 in
theorem set_draw (w : World) (B g : Nat) (h : HasSrc w B g) : Calls Tryz.prog 41 #[.pointer (some ⟨g, 0, none⟩)] w (GotSet w B g) := by
  have hl := h.lt
  have hb0 := step_alloc w (.cells #[.slice none 0 0, .slice none 0 0] 26)
  have RS := jj (Cells.new w #[.slice none 0 0, .slice none 0 0] 26)
  have H := jj (h.below hb0)
  have W0 := jj ((Within.refl g (g + 1) w).onto hb0)
  have hz0 : w.heap.size < (w.alloc (.cells #[.slice none 0 0, .slice none 0 0] 26)).heap.size := by simp
  simp only [List.toList_toArray] at RS
  clear hb0 h
  obtain ⟨i0, hi, hz0i, hz1, hz2⟩ := info_parts infoS
  have hz0' := hz0
  go_enter Tryz.func41, Tryz.ntmps41
  go_wp2_with fail
  generalize w.alloc (.cells #[.slice none 0 0, .slice none 0 0] 26) = w0 at RS H W0 hz0 hz0' ⊢
  refine (three_draw w0 B g H.out).mono ?_
  rintro e w1 ⟨T, F, rfl, hL⟩
  have L := jj hL
  replace RS := jj (RS.out.within hL.wi (by omega))
  replace W0 := jj (W0.out.trans hL.wi)
  clear hL H
  go_wp2_with fail
  refine (n_draw _ B g 3 (by decide) (by decide) L.out.src).mono ?_
  rintro e w2 ⟨r, hr, rfl, hs, hg⟩
  replace RS := jj (RS.out.within (within_grown hg) (by omega))
  replace W0 := jj (W0.out.trans (within_grown hg))
  replace L := jj (L.out.drawn hs (within_grown hg))
  clear hs hg
  have r0 : (0 : Int) ≤ (r : Int) := by omega
  have r3 : (r : Int) < 3 := by omega
  obtain ⟨c0, c1⟩ := L.out.c r hr
  have XS := jj (L.out.r r hr)
  have hTw := L.out.wT
  have hTH := L.out.tH
  have hs8 := (L.out.r r hr).s8
  have hsrc := jj L.out.src
  generalize F r = R at c0 c1 XS hs8
  unfold SR.va at c0
  unfold SR.vb at c1
  have hb := step_alloc w2 (.cells #[.slice R.a R.l.length R.ac, .slice R.b R.s.length R.bc] 26)
  have X0 := jj (Cells.new w2 #[.slice R.a R.l.length R.ac, .slice R.b R.s.length R.bc] 26)
  simp only [List.toList_toArray] at X0
  clear L
  go_upto_region 2 with fail
  clear c0 c1
  have hXz := XS.out.hz
  have X := jj (show XSt w (w2.alloc (.cells #[.slice R.a R.l.length R.ac, .slice R.b R.s.length R.bc] 26)) B g w2.heap.size R.vb R from
    ⟨RS.out.below hb, X0.out, ⟨T + 1, w1.heap.size, ⟨(XS.out.below hb).m, (XS.out.below hb).hz⟩, by omega, .inl hXz⟩, ⟨T + 1, w1.heap.size, ⟨(XS.out.below hb).r, (XS.out.below hb).hz⟩, by omega, .inl hXz⟩, XS.out.ok, XS.out.dj, XS.out.nz, hsrc.out.below hb, W0.out.onto hb, hl.2, by have := W0.out.size; have := hl.2; omega⟩)
  have O := jj (row_le (B' := w.heap.size + 1) (XS.out.below hb).o (by omega))
  have OH := jj (show ∀ k, R.vb.ownBlock = some k → w.heap.size + 1 ≤ k ∧ k ≠ w2.heap.size from fun k hk => ⟨by have := (XS.out.o.lt k hk).1; omega, by have := XS.out.oh k hk; omega⟩)
  obtain ⟨Xb, hXb⟩ : ∃ Xb, w2.heap.size = Xb := ⟨_, rfl⟩
  rw [hXb] at X OH ⊢
  clear hb X0 RS XS W0 hXz hsrc hXb hTw hTH
  generalize w2.alloc (.cells #[.slice R.a R.l.length R.ac, .slice R.b R.s.length R.bc] 26) = w3 at X O ⊢
  go_upto_if 12 with (go_at_call 42; refine (one_draw _ B g 15 (by decide) (by decide) X.out.src).mono ?_; rintro e w4 ⟨b1, rfl, hs, hg⟩; replace O := jj (own_within O.out (within_grown hg) (by omega)); replace X := jj (X.out.drawn hs (within_grown hg)); clear hs hg)
  go_cut [] (fun wx => ∃ R : SR, XSt w wx B g Xb R.vb R)
  case first =>
    cases b1
    · go_wp2_with fail
      go_meet
      exact ⟨R, X.out⟩
    · go_wp2_with fail
      refine (n_draw _ B g 4 (by decide) (by decide) X.out.src).mono ?_
      rintro e w5 ⟨q, hq, rfl, hs, hg⟩
      replace O := jj (own_within O.out (within_grown hg) (by omega))
      replace X := jj (X.out.drawn hs (within_grown hg))
      clear hs hg
      obtain ⟨z, hz⟩ : ∃ z : Int, (q : Int) = z := ⟨_, rfl⟩
      have hz4 : z = 0 ∨ z = 1 ∨ z = 2 ∨ z = 3 := by omega
      rw [hz]
      clear hz hq
      rcases hz4 with rfl | rfl | rfl | rfl
      · go_wp2_with fail
        refine (seen_draw _ B g X.out.src).mono ?_
        rintro e w6 ⟨l, a, cap, h6, rfl, ho, hs, hw⟩
        have hXl := X.out.x.lt
        have hRb : ∀ q, R.b = some q → R.s ≠ [] → q.block < w5.heap.size := fun q hq hne => by
          obtain ⟨lo, hi, h4, _, _⟩ := X.out.r
          rcases h4.1 with h8 | ⟨k, h8, _, h10, _⟩
          · exact absurd h8 hne
          · rw [h8] at hq; cases hq; have := h4.2; simp only; omega
        replace X := jj (X.out.drawn hs hw)
        have M := jj (show OwnI w6 w5.heap.size w6.heap.size a l from ⟨ho, Nat.le_refl _⟩)
        clear ho hs hw
        obtain ⟨x0, x1, fx0, fx1⟩ := X.out.x.c2
        go_wp2_with fail
        go_meet
        exact ⟨⟨a, cap, l, R.b, R.bc, R.s⟩, X.out.putM (ac := cap) M.out hXl h6 hRb⟩
      · have OHd := OH
        go_upto_region 9 with fail
        have Xd := jj (X.out.below (show Below w5.heap.size w5 w5.drew from (Below.refl _ _).drew))
        have Od := jj (own_below O.out (show Below w5.heap.size w5 w5.drew from (Below.refl _ _).drew))
        have OHd := jj OH.out
        clear X O
        refine wp_region_held_drew (S := (fun _ => True)) (by kernel_rfl) (by trivial) (fun hHeld => ?_)
        have X := jj Xd.out
        have O := jj Od.out
        clear Xd Od
        generalize w5.drew = w6 at X O ⊢
        refine tk 0 (v := ?_) ?_
        try walk_nrm
        refine tk 2 (v := ?_) ?_
        try walk_nrm
        refine wpAnyH_ready (rs := [1, 3]) (by kernel_rfl) (by simp) ?_
        refine AllReadyH.cons rfl (fun K hK => ?_) (AllReadyH.cons rfl (fun K hK => ?_) AllReadyH.nil)
        · go_simp
          obtain ⟨x0, x1, fx0, fx1⟩ := X.out.x.c2
          unfold SR.vb at x1
          go_simp
          clear x0 x1 fx0 fx1
          refine hK.out _ _ (by trivial) (fun hHeld => ?_)
          clear hK K
          try walk_nrm
          refine rd 3 (fun K hK => ?_)
          go_simp
          go_at_call 74
          refine (dot_draw _ B g X.out.src).mono ?_
          rintro e w7 ⟨⟨m1, m2⟩, hm, rfl, hs, hw⟩
          replace O := jj (own_within O.out hw (by have := X.out.gT; omega))
          replace X := jj (X.out.drawn hs hw)
          simp only at hm
          clear hs hw
          go_wp2_with fail
          refine hK.out _ _ (by trivial) (fun hHeld => ?_)
          clear hK K
          try walk_nrm
          refine tk 4 (v := ?_) ?_
          try walk_nrm
          refine rd 5 (fun K hK => ?_)
          go_simp
          have hb := step_alloc w7 (.cells #[.int .i64 m1, .int .i64 m2, .bool false, .string ⟨#[120]⟩] 94)
          replace O := jj (own_below O.out hb)
          replace X := jj (X.out.below hb)
          clear hb
          refine hK.out _ _ (by trivial) (fun hHeld => ?_)
          clear hK K
          try walk_nrm
          refine rd 6 (fun K hK => ?_)
          refine step_append_lies (w7.alloc (.cells #[.int .i64 m1, .int .i64 m2, .bool false, .string ⟨#[120]⟩] 94)) rfl (.tmp 36) (.tmp 40) 24 rfl (w.heap.size + 1) 94 i0 _ 4 40 Tryz.underlying24 hi hz0i hz1 hz2 rfl (by decide) R.vb R.s.length (flatE 4 senc R.s) (by rfl) O.out ⟨w7.heap.size, 0, none⟩ 1 1 (flatE 4 senc [((m1, m2), false, ⟨#[120]⟩)]) (by rfl) rfl (World.news_of_block (cs := #[.int .i64 m1, .int .i64 m2, .bool false, .string ⟨#[120]⟩]) (heap_alloc_new w7 _)) flat_one (by omega) (by unfold maxLen; omega) (by omega) X.out.big (w7.alloc (.cells #[.int .i64 m1, .int .i64 m2, .bool false, .string ⟨#[120]⟩] 94)).heap.size rfl ?_
          intro g6 c6 w9 ho6 hg6 hor hlt6
          have hb := (Below.refl (w.heap.size + 1) (w7.alloc (.cells #[.int .i64 m1, .int .i64 m2, .bool false, .string ⟨#[120]⟩] 94))).grown hg6 X.out.big (fun k hk => (O.out.lt k hk).1)
          rw [← flatE_append] at ho6
          have hX6 : g6 ≠ Xb := hor.elim (fun h => (OHd.out g6 h).2) (fun h => by have := X.out.x.lt; omega)
          have X9 := jj (X.out.appended (x := ((m1, m2), false, ⟨#[120]⟩)) hX6 hg6 hb hor OHd.out (by rw [List.length_append]; exact ho6) ⟨show (1 : Nat) ≤ 17 by decide, WalkArith.wf_i64 (n := m1) (by omega)⟩ hs8)
          clear hb ho6 hg6 hor hlt6 hX6 O X
          refine hK.out _ _ (by trivial) (fun hHeld => ?_)
          clear hK K
          try walk_nrm
          refine tk 7 (v := ?_) ?_
          try walk_nrm
          refine rd 8 (fun K hK => ?_)
          go_simp
          obtain ⟨x0, x1, fx0, fx1⟩ := X9.out.x.c2
          go_simp
          have XZ := jj (X9.out.putS)
          clear x0 x1 fx0 fx1
          refine hK.out _ _ (by trivial) (fun hHeld => ?_)
          clear hK K
          try walk_nrm
          refine rx ?_
          go_wp2_with fail
          go_meet
          have ev : SR.vb ⟨R.a, R.ac, R.l, some ⟨g6, 0, none⟩, c6, R.s ++ [((m1, m2), false, ⟨#[120]⟩)]⟩ = .slice (some ⟨g6, 0, none⟩) (R.s.length + 1) c6 := by unfold SR.vb; rw [List.length_append]; rfl
          have XY := XZ.out
          rw [ev] at XY
          exact ⟨⟨R.a, R.ac, R.l, some ⟨g6, 0, none⟩, c6, R.s ++ [((m1, m2), false, ⟨#[120]⟩)]⟩, by rw [ev]; exact XY⟩
        · go_simp
          go_at_call 74
          refine (dot_draw _ B g X.out.src).mono ?_
          rintro e w7 ⟨⟨m1, m2⟩, hm, rfl, hs, hw⟩
          replace O := jj (own_within O.out hw (by have := X.out.gT; omega))
          replace X := jj (X.out.drawn hs hw)
          simp only at hm
          clear hs hw
          go_wp2_with fail
          refine hK.out _ _ (by trivial) (fun hHeld => ?_)
          clear hK K
          try walk_nrm
          refine tk 4 (v := ?_) ?_
          try walk_nrm
          refine wpAnyH_ready (rs := [1, 5]) (by kernel_rfl) (by simp) ?_
          refine AllReadyH.cons rfl (fun K hK => ?_) (AllReadyH.cons rfl (fun K hK => ?_) AllReadyH.nil)
          · go_simp
            obtain ⟨x0, x1, fx0, fx1⟩ := X.out.x.c2
            unfold SR.vb at x1
            go_simp
            clear x0 x1 fx0 fx1
            refine hK.out _ _ (by trivial) (fun hHeld => ?_)
            clear hK K
            try walk_nrm
            refine rd 5 (fun K hK => ?_)
            go_simp
            have hb := step_alloc w7 (.cells #[.int .i64 m1, .int .i64 m2, .bool false, .string ⟨#[120]⟩] 94)
            replace O := jj (own_below O.out hb)
            replace X := jj (X.out.below hb)
            clear hb
            refine hK.out _ _ (by trivial) (fun hHeld => ?_)
            clear hK K
            try walk_nrm
            refine rd 6 (fun K hK => ?_)
            refine step_append_lies (w7.alloc (.cells #[.int .i64 m1, .int .i64 m2, .bool false, .string ⟨#[120]⟩] 94)) rfl (.tmp 36) (.tmp 40) 24 rfl (w.heap.size + 1) 94 i0 _ 4 40 Tryz.underlying24 hi hz0i hz1 hz2 rfl (by decide) R.vb R.s.length (flatE 4 senc R.s) (by rfl) O.out ⟨w7.heap.size, 0, none⟩ 1 1 (flatE 4 senc [((m1, m2), false, ⟨#[120]⟩)]) (by rfl) rfl (World.news_of_block (cs := #[.int .i64 m1, .int .i64 m2, .bool false, .string ⟨#[120]⟩]) (heap_alloc_new w7 _)) flat_one (by omega) (by unfold maxLen; omega) (by omega) X.out.big (w7.alloc (.cells #[.int .i64 m1, .int .i64 m2, .bool false, .string ⟨#[120]⟩] 94)).heap.size rfl ?_
            intro g6 c6 w9 ho6 hg6 hor hlt6
            have hb := (Below.refl (w.heap.size + 1) (w7.alloc (.cells #[.int .i64 m1, .int .i64 m2, .bool false, .string ⟨#[120]⟩] 94))).grown hg6 X.out.big (fun k hk => (O.out.lt k hk).1)
            rw [← flatE_append] at ho6
            have hX6 : g6 ≠ Xb := hor.elim (fun h => (OHd.out g6 h).2) (fun h => by have := X.out.x.lt; omega)
            have X9 := jj (X.out.appended (x := ((m1, m2), false, ⟨#[120]⟩)) hX6 hg6 hb hor OHd.out (by rw [List.length_append]; exact ho6) ⟨show (1 : Nat) ≤ 17 by decide, WalkArith.wf_i64 (n := m1) (by omega)⟩ hs8)
            clear hb ho6 hg6 hor hlt6 hX6 O X
            refine hK.out _ _ (by trivial) (fun hHeld => ?_)
            clear hK K
            try walk_nrm
            refine tk 7 (v := ?_) ?_
            try walk_nrm
            refine rd 8 (fun K hK => ?_)
            go_simp
            obtain ⟨x0, x1, fx0, fx1⟩ := X9.out.x.c2
            go_simp
            have XZ := jj (X9.out.putS)
            clear x0 x1 fx0 fx1
            refine hK.out _ _ (by trivial) (fun hHeld => ?_)
            clear hK K
            try walk_nrm
            refine rx ?_
            go_wp2_with fail
            go_meet
            have ev : SR.vb ⟨R.a, R.ac, R.l, some ⟨g6, 0, none⟩, c6, R.s ++ [((m1, m2), false, ⟨#[120]⟩)]⟩ = .slice (some ⟨g6, 0, none⟩) (R.s.length + 1) c6 := by unfold SR.vb; rw [List.length_append]; rfl
            have XY := XZ.out
            rw [ev] at XY
            exact ⟨⟨R.a, R.ac, R.l, some ⟨g6, 0, none⟩, c6, R.s ++ [((m1, m2), false, ⟨#[120]⟩)]⟩, by rw [ev]; exact XY⟩
          · go_simp
            have hb := step_alloc w7 (.cells #[.int .i64 m1, .int .i64 m2, .bool false, .string ⟨#[120]⟩] 94)
            replace O := jj (own_below O.out hb)
            replace X := jj (X.out.below hb)
            clear hb
            refine hK.out _ _ (by trivial) (fun hHeld => ?_)
            clear hK K
            try walk_nrm
            refine rd 1 (fun K hK => ?_)
            go_simp
            obtain ⟨x0, x1, fx0, fx1⟩ := X.out.x.c2
            unfold SR.vb at x1
            go_simp
            clear x0 x1 fx0 fx1
            refine hK.out _ _ (by trivial) (fun hHeld => ?_)
            clear hK K
            try walk_nrm
            refine rd 6 (fun K hK => ?_)
            refine step_append_lies (w7.alloc (.cells #[.int .i64 m1, .int .i64 m2, .bool false, .string ⟨#[120]⟩] 94)) rfl (.tmp 36) (.tmp 40) 24 rfl (w.heap.size + 1) 94 i0 _ 4 40 Tryz.underlying24 hi hz0i hz1 hz2 rfl (by decide) R.vb R.s.length (flatE 4 senc R.s) (by rfl) O.out ⟨w7.heap.size, 0, none⟩ 1 1 (flatE 4 senc [((m1, m2), false, ⟨#[120]⟩)]) (by rfl) rfl (World.news_of_block (cs := #[.int .i64 m1, .int .i64 m2, .bool false, .string ⟨#[120]⟩]) (heap_alloc_new w7 _)) flat_one (by omega) (by unfold maxLen; omega) (by omega) X.out.big (w7.alloc (.cells #[.int .i64 m1, .int .i64 m2, .bool false, .string ⟨#[120]⟩] 94)).heap.size rfl ?_
            intro g6 c6 w9 ho6 hg6 hor hlt6
            have hb := (Below.refl (w.heap.size + 1) (w7.alloc (.cells #[.int .i64 m1, .int .i64 m2, .bool false, .string ⟨#[120]⟩] 94))).grown hg6 X.out.big (fun k hk => (O.out.lt k hk).1)
            rw [← flatE_append] at ho6
            have hX6 : g6 ≠ Xb := hor.elim (fun h => (OHd.out g6 h).2) (fun h => by have := X.out.x.lt; omega)
            have X9 := jj (X.out.appended (x := ((m1, m2), false, ⟨#[120]⟩)) hX6 hg6 hb hor OHd.out (by rw [List.length_append]; exact ho6) ⟨show (1 : Nat) ≤ 17 by decide, WalkArith.wf_i64 (n := m1) (by omega)⟩ hs8)
            clear hb ho6 hg6 hor hlt6 hX6 O X
            refine hK.out _ _ (by trivial) (fun hHeld => ?_)
            clear hK K
            try walk_nrm
            refine tk 7 (v := ?_) ?_
            try walk_nrm
            refine rd 8 (fun K hK => ?_)
            go_simp
            obtain ⟨x0, x1, fx0, fx1⟩ := X9.out.x.c2
            go_simp
            have XZ := jj (X9.out.putS)
            clear x0 x1 fx0 fx1
            refine hK.out _ _ (by trivial) (fun hHeld => ?_)
            clear hK K
            try walk_nrm
            refine rx ?_
            go_wp2_with fail
            go_meet
            have ev : SR.vb ⟨R.a, R.ac, R.l, some ⟨g6, 0, none⟩, c6, R.s ++ [((m1, m2), false, ⟨#[120]⟩)]⟩ = .slice (some ⟨g6, 0, none⟩) (R.s.length + 1) c6 := by unfold SR.vb; rw [List.length_append]; rfl
            have XY := XZ.out
            rw [ev] at XY
            exact ⟨⟨R.a, R.ac, R.l, some ⟨g6, 0, none⟩, c6, R.s ++ [((m1, m2), false, ⟨#[120]⟩)]⟩, by rw [ev]; exact XY⟩
      · obtain ⟨x0, x1, fx0, fx1⟩ := X.out.x.c2
        unfold SR.vb at x1
        by_cases h0 : 0 < R.s.length
        rotate_left
        · have hd0 : decide ((0 : Int) < (R.s.length : Int)) = false := decide_eq_false (by omega)
          go_wp2_with fail
          go_meet
          exact ⟨R, X.out⟩
        have hd0 : decide ((0 : Int) < (R.s.length : Int)) = true := decide_eq_true (by omega)
        have i1 : (0 : Int) < (R.s.length : Int) := by omega
        obtain ⟨lo', hi', h4, h5, h7⟩ := X.out.r
        rcases h4.1 with h8 | ⟨gb, h8, h9, h10, h11⟩
        · exact absurd h8 (List.length_pos_iff.1 h0)
        have HB := jj h8
        obtain ⟨⟨⟨en, em⟩, eg, ed⟩, hx⟩ : ∃ x, R.s[0] = x := ⟨_, rfl⟩
        have HXx := jj hx
        have XQ := jj (fun (W : World) (hX : XSt w W B g Xb R.vb R) => (show W.cell? ⟨Xb, 1, none⟩ = some (.slice (some ⟨gb, 0, none⟩) R.s.length R.bc) by have q := hX.x.c2.2.1; unfold SR.vb at q; rw [h8] at q; exact q))
        have XE := jj (fun (W : World) (hX : XSt w W B g Xb R.vb R) => (show W.cell? ⟨gb, 2, none⟩ = some (.bool eg) ∧ W.cell? ⟨gb, 3, none⟩ = some (.string ed) ∧ W.frozen? ⟨gb, 2, none⟩ = false ∧ W.frozen? ⟨gb, 3, none⟩ = false by
          obtain ⟨lo, hi, q4, _, _⟩ := hX.r
          rcases q4.1 with q8 | ⟨k, q8, _, _, q11⟩
          · exact absurd q8 (List.length_pos_iff.1 h0)
          · rw [h8] at q8
            cases q8
            obtain ⟨_, _, e2, e3⟩ := SOwn.cells q11 h0
            rw [hx] at e2 e3
            exact ⟨by simpa using e2, by simpa using e3, q11.free 2, q11.free 3⟩))
        rw [h8] at x1
        clear hx h4 h5 h7 h8 h9 h10 h11 O OH
        go_upto_region 12 with fail
        clear x0 x1 fx0 fx1
        have Xd := jj (X.out.below (show Below w5.heap.size w5 w5.drew from (Below.refl _ _).drew))
        clear X
        refine wp_region_held_drew (S := (fun w' => w'.cell? ⟨Xb, 1, none⟩ = some (.slice (some ⟨gb, 0, none⟩) R.s.length R.bc))) (by kernel_rfl) (by exact XQ.out _ Xd.out) (fun hHeld => ?_)
        have X := jj Xd.out
        clear Xd
        generalize w5.drew = w6 at X hHeld ⊢
        refine tk 0 (v := ?_) ?_
        try walk_nrm
        refine tk 1 (v := ?_) ?_
        try walk_nrm
        refine tk 2 (v := ?_) ?_
        try walk_nrm
        refine tk 3 (v := ?_) ?_
        try walk_nrm
        refine tk 4 (v := ?_) ?_
        try walk_nrm
        refine tk 5 (v := ?_) ?_
        try walk_nrm
        refine rd 6 (fun K hK => ?_)
        obtain ⟨e2, e3, f2, f3⟩ := XE.out _ X.out
        go_simp
        clear e2 e3 f2 f3
        refine hK.out _ _ (by exact XQ.out _ X.out) (fun hHeld => ?_)
        clear hK K
        try walk_nrm
        refine tk 7 (v := ?_) ?_
        try walk_nrm
        refine tk 8 (v := ?_) ?_
        try walk_nrm
        refine tk 9 (v := ?_) ?_
        try walk_nrm
        refine rd 10 (fun K hK => ?_)
        obtain ⟨e2, e3, f2, f3⟩ := XE.out _ X.out
        go_simp
        clear e2 e3 f2 f3
        have XZ := jj (X.out.turned (y := ((en, em), !eg, ed)) (i := 2) (u := .bool (!eg)) HB.out h0 (by decide) rfl (fun j hj hne => by rw [HXx.out]; match j, hj, hne with | 0, _, _ => rfl | 1, _, _ => rfl | 3, _, _ => rfl) (by have := X.out.ok.d _ (List.getElem_mem h0); rw [HXx.out] at this; exact this) (by rw [HXx.out]))
        refine hK.out _ _ (by have q := XZ.out.x.c2.2.1; simp only [SR.vb, List.length_set] at q; rw [HB.out] at q; exact q) (fun hHeld => ?_)
        clear hK K
        try walk_nrm
        refine rx ?_
        go_wp2_with fail
        go_meet
        exact ⟨_, XZ.out⟩
      · obtain ⟨x0, x1, fx0, fx1⟩ := X.out.x.c2
        unfold SR.vb at x1
        by_cases h0 : 0 < R.s.length
        rotate_left
        · have hd0 : decide ((0 : Int) < (R.s.length : Int)) = false := decide_eq_false (by omega)
          go_wp2_with fail
          go_meet
          exact ⟨R, X.out⟩
        have hd0 : decide ((0 : Int) < (R.s.length : Int)) = true := decide_eq_true (by omega)
        have i1 : (0 : Int) < (R.s.length : Int) := by omega
        obtain ⟨lo', hi', h4, h5, h7⟩ := X.out.r
        rcases h4.1 with h8 | ⟨gb, h8, h9, h10, h11⟩
        · exact absurd h8 (List.length_pos_iff.1 h0)
        have HB := jj h8
        obtain ⟨⟨⟨en, em⟩, eg, ed⟩, hx⟩ : ∃ x, R.s[0] = x := ⟨_, rfl⟩
        have HXx := jj hx
        have XQ := jj (fun (W : World) (hX : XSt w W B g Xb R.vb R) => (show W.cell? ⟨Xb, 1, none⟩ = some (.slice (some ⟨gb, 0, none⟩) R.s.length R.bc) by have q := hX.x.c2.2.1; unfold SR.vb at q; rw [h8] at q; exact q))
        have XE := jj (fun (W : World) (hX : XSt w W B g Xb R.vb R) => (show W.cell? ⟨gb, 2, none⟩ = some (.bool eg) ∧ W.cell? ⟨gb, 3, none⟩ = some (.string ed) ∧ W.frozen? ⟨gb, 2, none⟩ = false ∧ W.frozen? ⟨gb, 3, none⟩ = false by
          obtain ⟨lo, hi, q4, _, _⟩ := hX.r
          rcases q4.1 with q8 | ⟨k, q8, _, _, q11⟩
          · exact absurd q8 (List.length_pos_iff.1 h0)
          · rw [h8] at q8
            cases q8
            obtain ⟨_, _, e2, e3⟩ := SOwn.cells q11 h0
            rw [hx] at e2 e3
            exact ⟨by simpa using e2, by simpa using e3, q11.free 2, q11.free 3⟩))
        rw [h8] at x1
        clear hx h4 h5 h7 h8 h9 h10 h11 O OH
        go_upto_region 5 with fail
        clear x0 x1 fx0 fx1
        have Xd := jj (X.out.below (show Below w5.heap.size w5 w5.drew from (Below.refl _ _).drew))
        clear X
        refine wp_region_held_drew (S := (fun w' => w'.cell? ⟨Xb, 1, none⟩ = some (.slice (some ⟨gb, 0, none⟩) R.s.length R.bc))) (by kernel_rfl) (by exact XQ.out _ Xd.out) (fun hHeld => ?_)
        have X := jj Xd.out
        clear Xd
        generalize w5.drew = w6 at X hHeld ⊢
        refine tk 0 (v := ?_) ?_
        try walk_nrm
        refine tk 1 (v := ?_) ?_
        try walk_nrm
        refine tk 2 (v := ?_) ?_
        try walk_nrm
        refine rd 3 (fun K hK => ?_)
        go_simp
        go_at_call 24
        refine (n_draw _ B g 3 (by decide) (by decide) X.out.src).mono ?_
        rintro e w7 ⟨r2, hr2, rfl, hs, hg⟩
        replace X := jj (X.out.drawn hs (within_grown hg))
        clear hs hg
        go_wp2_with fail
        refine hK.out _ _ (by exact XQ.out _ X.out) (fun hHeld => ?_)
        clear hK K
        try walk_nrm
        have ew : IntKind.i64.wrap (15 + (r2 : Int)) = 15 + (r2 : Int) := IntWalk.i64_in _ (by omega)
        refine tk 4 (v := ?_) ?_
        try walk_nrm
        have hmk := run_make_row' (P := Tryz.prog) 22 5 (.int .u8 0) 1 Tryz.underlying22 Go.Proofs.YtiaoifodaoifjaaGreat.Nu.info8 rfl .i64 .i64 (15 + r2) (by omega) (by omega) w7
        obtain ⟨ds, hds, hcv⟩ : ∃ d : ByteArray, d.size = 15 + r2 ∧ (convert 22 9 (.slice (some ⟨w7.heap.size, 0, none⟩) (15 + r2) (15 + r2))).run Tryz.prog (w7.alloc (.cells (madeCells #[.int .u8 0] (15 + r2)) 5)) = .ok (.string d) (w7.alloc (.cells (madeCells #[.int .u8 0] (15 + r2)) 5)) := by
          have hcv := (Go.Proofs.YtiaoifodaoifjaaGreat.Nu.Row.new w7 (15 + r2)).string (15 + r2)
          rw [List.length_replicate] at hcv
          exact ⟨_, by rw [← Go.Proofs.YtiaoifodaoifjaaGreat.Nu.size_data]; simp, hcv⟩
        have ec : ((15 + r2 : Nat) : Int) = 15 + (r2 : Int) := by omega
        rw [ec] at hmk
        clear ec
        refine rd 5 (fun K hK => ?_)
        go_simp
        have hb := step_alloc w7 (.cells (madeCells #[.int .u8 0] (15 + r2)) 5)
        replace X := jj (X.out.below hb)
        clear hb hmk
        refine hK.out _ _ (by exact XQ.out _ X.out) (fun hHeld => ?_)
        clear hK K
        try walk_nrm
        refine rd 6 (fun K hK => ?_)
        go_simp
        clear hcv
        refine hK.out _ _ (by exact XQ.out _ X.out) (fun hHeld => ?_)
        clear hK K
        try walk_nrm
        refine tk 7 (v := ?_) ?_
        try walk_nrm
        refine tk 8 (v := ?_) ?_
        try walk_nrm
        refine rd 9 (fun K hK => ?_)
        obtain ⟨e2, e3, f2, f3⟩ := XE.out _ X.out
        go_simp
        clear e2 e3 f2 f3
        have XZ := jj (X.out.turned (y := ((en, em), eg, ds)) (i := 3) (u := .string ds) HB.out h0 (by decide) rfl (fun j hj hne => by rw [HXx.out]; match j, hj, hne with | 0, _, _ => rfl | 1, _, _ => rfl | 2, _, _ => rfl | j + 3, hj, hne => exact absurd (show j + 3 = 3 by have q : j + 3 < 4 := hj; omega) hne) (by simp only; omega) (by rw [HXx.out]))
        refine hK.out _ _ (by have q := XZ.out.x.c2.2.1; simp only [SR.vb, List.length_set] at q; rw [HB.out] at q; exact q) (fun hHeld => ?_)
        clear hK K
        try walk_nrm
        refine rx ?_
        go_wp2_with fail
        go_meet
        exact ⟨_, XZ.out⟩
  case rest =>
    obtain ⟨R2, hx⟩ := hcut
    clear X O OH
    have X := jj hx
    clear hx
    generalize R2 = R at X
    go_upto_if 60 with (go_at_call 42; refine (one_draw _ B g 25 (by decide) (by decide) X.out.src).mono ?_; rintro e w7 ⟨b2, rfl, hs, hg⟩; replace X := jj (X.out.drawn hs (within_grown hg)); clear hs hg)
    go_cut [] (fun wx => ∃ R : SR, XSt w wx B g Xb R.vb R)
    case first =>
      cases b2
      · go_wp2_with fail
        go_meet
        exact ⟨R, X.out⟩
      · have Z := jj (XL.start X.out)
        obtain ⟨x0, x1, fx0, fx1⟩ := (X.out.below (step_alloc w7 (.cells #[.int .i64 4, .int .i64 9] 63))).x.c2
        go_upto_region 15 with fail
        clear x0 x1 fx0 fx1 X
        obtain ⟨M, hM⟩ : ∃ M, w7.heap.size = M := ⟨_, rfl⟩
        rw [hM] at Z ⊢
        clear hM
        generalize ((w7.alloc (.cells #[.int .i64 4, .int .i64 9] 63)).setCell ⟨Xb, 0, none⟩ (.slice (some ⟨M, 0, none⟩) 1 1)).setCell ⟨Xb, 1, none⟩ (.slice none 0 0) = w8 at Z ⊢
        go_wp2
        go_loopw [4] (fun u wr => ∃ (k : Nat) (vq : Value) (S : List Sib), k ≤ 8 ∧ u = .int .i64 ((k : Int) + 1) ∧ XL w wr B g Xb M vq S ∧ S.length = k) (fun u _ => (9 - intOf u).toNat)
        case atStart => exact ⟨0, _, [], by decide, rfl, Z.out, rfl⟩
        case round =>
          obtain ⟨k, vq, S, hk, rfl, hz, hS⟩ := hrel
          clear Z
          have Z := jj hz
          clear hz
          by_cases hk8 : k < 8
          rotate_left
          · obtain ⟨R3, hX3⟩ := XL.fin Z.out (by omega)
            have hdk : decide ((k : Int) + 1 ≤ 8) = false := decide_eq_false (by omega)
            go_wp2_with fail
            go_meet
            exact ⟨R3, hX3⟩
          have hdk : decide ((k : Int) + 1 ≤ 8) = true := decide_eq_true (by omega)
          obtain ⟨x0, x1, fx0, fx1⟩ := Z.out.x.c2
          have hMl := Z.out.Ml
          go_wp2_with (at_builtin; refine wpList_append_sib _ rfl _ _ rfl (M + 1) _ S ((4, (k : Int) + 1), false, ⟨#[]⟩) (by rfl) wr.heap.size (by rfl) (by rfl) Z.out.o (by omega) hMl ?_; intro v' w9 ho5 hb5; have Z2 := jj (Z.out.next hb5 ho5 (fun y hy => by rcases List.mem_append.1 hy with hy | hy; exact Z.out.ok y hy; rw [List.mem_singleton] at hy; subst hy; exact ⟨show (0 : Nat) ≤ 17 by decide, rfl⟩)); have Xc := (Z.out.x.same (hb5.block _ (by have := Z.out.xM; omega)) hb5.size).c2; obtain ⟨qa, qc, rfl, _, _⟩ := own_head ho5; clear ho5 hb5 x0 x1 fx0 fx1; obtain ⟨x0, x1, fx0, fx1⟩ := Xc)
          go_roundw
          case rel =>
            have e9 : (S ++ [(((4, (k : Int) + 1), false, ⟨#[]⟩) : Sib)]).length = k + 1 := by rw [List.length_append, hS]; rfl
            have Z3 := Z2.out
            rw [e9] at Z3
            exact ⟨k + 1, _, _, by omega, by go_num, Z3, e9⟩
          case measure => go_light; simp [intOf]; omega
    case rest =>
      obtain ⟨R2, hx⟩ := hcut
      clear X
      have X := jj hx
      clear hx
      generalize R2 = R at X
      obtain ⟨x0, x1, fx0, fx1⟩ := X.out.x.c2
      obtain ⟨y0, y1, fy0, fy1⟩ := X.out.res.c2
      unfold SR.va at x0
      unfold SR.vb at x1
      go_wp2
      have XF := (X.out.res.set 0 (by simp) R.va).set 1 (by simp) R.vb
      have hw := (one_store wc w.heap.size 0 R.va).trans (one_store _ w.heap.size 1 R.vb)
      obtain ⟨q0, q1, -⟩ := (show Cells _ _ [R.va, R.vb] from XF).c2
      unfold SR.va SR.vb at q0
      unfold SR.va SR.vb at q1
      refine bodyPost_ret (v := .agg #[R.va, R.vb]) (by simp [results, Tryz.results41, go_sem, q0, q1, SR.va, SR.vb]) rfl ?_
      obtain ⟨lo, hi, h1, h2, h3⟩ := X.out.m
      obtain ⟨lo', hi', h4, h5, h6⟩ := X.out.r
      have hgT := X.out.gT
      have hlt := X.out.src.lt
      exact ⟨R, rfl, ⟨lo, hi, h1.within hw (by omega), by omega⟩, ⟨lo', hi', h4.within hw (by omega), by omega⟩, X.out.ok, X.out.src.within hw (by omega) (by omega), X.out.wi.new hw (Nat.le_refl _)⟩
end Go.Proofs.YtiaoifodaoifjaaGreat.Sb
