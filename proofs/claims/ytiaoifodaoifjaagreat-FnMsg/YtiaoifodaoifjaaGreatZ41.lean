/- Parts of a law: SetDraw. Conditions: on sizes, as each says. -/
import Derived.Test.YtiaoifodaoifjaaGreatZ1
import Derived.Deep.DeepCutAuto
import Derived.Deep.RegionHeld3
import Derived.Test.YtiaoifodaoifjaaGreatZ13
import Derived.Test.YtiaoifodaoifjaaGreatZ38
import Derived.Test.YtiaoifodaoifjaaGreatZ33
set_option linter.unusedSimpArgs false
set_option linter.unusedVariables false
namespace Go.Proofs.YtiaoifodaoifjaaGreat.Sb
open Go.RowKit Go.Proofs.YtiaoifodaoifjaaGreat.Mk Go.Proofs.YtiaoifodaoifjaaGreat.Rw Go.Proofs.YtiaoifodaoifjaaGreat.Dr
structure Fine (l : List (Int × Int)) (s : List Sib) : Prop where
  l6 : l.length ≤ 6
  s9 : s.length ≤ 9
  d : ∀ x ∈ s, x.2.2.size ≤ 17
  wf : WfDots s
theorem Fine.nil : Fine [] [] := ⟨by simp, by simp, fun x h => by simp at h, fun x h => by simp at h⟩
theorem Fine.len {l : List (Int × Int)} {s : List Sib} (h : Fine l s) : l.length ≤ maxLen := by have := h.l6; unfold maxLen; omega
theorem Fine.lens {l : List (Int × Int)} {s : List Sib} (h : Fine l s) : s.length ≤ maxLen := by have := h.s9; unfold maxLen; omega
theorem Fine.small {l : List (Int × Int)} {s : List Sib} (h : Fine l s) : SmallData s := fun x hx => by have := h.d x hx; unfold maxLen; omega
theorem collect_mem : ∀ (xs pre : List Sib) (y : Sib), y ∈ xs.foldl ins pre → y ∈ xs ∨ y ∈ pre
  | [], pre, y, h => .inr h
  | x :: r, pre, y, h => by
    rcases collect_mem r (ins pre x) y h with h | h
    · exact .inl (by simp [h])
    · rcases ins_mem.1 h with rfl | h
      · exact .inl (by simp)
      · exact .inr h
theorem collect_mem' {xs : List Sib} {y : Sib} (h : y ∈ collect xs) : y ∈ xs := by
  rcases collect_mem xs [] y h with h | h
  · exact h
  · simp at h
theorem Fine.put {l : List (Int × Int)} {s : List Sib} {q : List (Int × Int)} {n : Int} {d : ByteArray} {g : Bool} (h : Fine l s) (hn : (Lit.int .i64 n).wf = true) (hd : d.size ≤ 17) : Fine (spSeen l s q n d g) (spSibs l s q n d g) := by
  have key : ∀ x ∈ spSibs l s q n d g, x ∈ s ∨ x = ((n, putN l q n), g, d) := by
    intro x hx
    unfold spSibs at hx
    split at hx
    · unfold putS at hx
      rcases ins_mem.1 hx with rfl | hx
      · exact .inr rfl
      · exact .inl ((List.mem_filter.1 (collect_mem' hx)).1)
    · simp at hx
  refine ⟨Nat.le_trans (spSeen_len l s q n d g) (by decide), Nat.le_trans (spSibs_len l s q n d g) (by decide), fun x hx => ?_, fun x hx => ?_⟩
  · rcases key x hx with hx | rfl
    · exact h.d x hx
    · exact hd
  · rcases key x hx with hx | rfl
    · exact h.wf x hx
    · exact hn
theorem synSeen_le (la : List (Int × Int)) (sa : List Sib) (lb : List (Int × Int)) (sb : List Sib) : (synSeen la sa lb sb).length ≤ 5 := by
  unfold synSeen
  split
  · exact joinV_length la lb
  · simp
theorem synSibs_le (la : List (Int × Int)) (sa : List Sib) (lb : List (Int × Int)) (sb : List Sib) : (synSibs la sa lb sb).length ≤ 8 := by
  unfold synSibs
  split
  · rename_i h
    unfold synC at h
    split at h
    · split at h
      · assumption
      · cases h
    · cases h
  · simp
theorem Fine.sync {la lb : List (Int × Int)} {sa sb : List Sib} (h1 : Fine la sa) (h2 : Fine lb sb) : Fine (synSeen la sa lb sb) (synSibs la sa lb sb) := by
  have key : ∀ x ∈ synSibs la sa lb sb, x ∈ sa ∨ x ∈ sb := by
    intro x hx
    unfold synSibs at hx
    split at hx
    · have hx := collect_mem' hx
      rcases List.mem_append.1 hx with hx | hx
      · exact .inl ((List.mem_filter.1 hx).1)
      · exact .inr ((List.mem_filter.1 hx).1)
    · simp at hx
  refine ⟨Nat.le_trans (synSeen_le la sa lb sb) (by decide), Nat.le_trans (synSibs_le la sa lb sb) (by decide), fun x hx => ?_, fun x hx => ?_⟩
  · rcases key x hx with hx | hx
    · exact h1.d x hx
    · exact h2.d x hx
  · rcases key x hx with hx | hx
    · exact h1.wf x hx
    · exact h2.wf x hx
structure SR where
  a : Option Addr
  ac : Nat
  l : List (Int × Int)
  b : Option Addr
  bc : Nat
  s : List Sib
def SR.va (r : SR) : Value := .slice r.a r.l.length r.ac
def SR.vb (r : SR) : Value := .slice r.b r.s.length r.bc
def SR.zero : SR := ⟨none, 0, [], none, 0, []⟩
structure SRow (w : World) (lo hi : Nat) (R : SR) : Prop where
  m : OwnIn w lo hi R.a R.l
  r : SOwnIn w lo hi R.b R.s
  o : w.ownsRow lo 94 4 R.vb R.s.length (flatE 4 senc R.s)
  oh : ∀ k, R.vb.ownBlock = some k → k < hi
  hz : hi ≤ w.heap.size
  ok : Fine R.l R.s
  s8 : R.s.length ≤ 8
  nz : R.s = [] → R.b = none
  dj : R.l = [] ∨ ∀ p q, R.a = some p → R.b = some q → R.s ≠ [] → p.block ≠ q.block
theorem SRow.zero (w : World) (lo hi : Nat) (h : hi ≤ w.heap.size) : SRow w lo hi SR.zero := ⟨.inl rfl, .inl rfl, World.ownsRow_nil _ _ _ _, (fun k hk => by cases hk), h, Fine.nil, by simp [SR.zero], fun _ => rfl, .inl rfl⟩
theorem SRow.same {w w' : World} {lo hi : Nat} {r : SR} (h : SRow w lo hi r) (hs : Same lo hi w w') (hz : w.heap.size ≤ w'.heap.size) : SRow w' lo hi r :=
  ⟨h.m.same hs, h.r.same hs, own_same h.o (fun k hk => hs k (h.o.lt k hk).1 (h.oh k hk)), h.oh, Nat.le_trans h.hz hz, h.ok, h.s8, h.nz, h.dj⟩
theorem SRow.below {w w' : World} {lo hi : Nat} {r : SR} (h : SRow w lo hi r) (hb : Below w.heap.size w w') : SRow w' lo hi r := h.same (Same.of_below hb h.hz) hb.size
theorem SRow.far {w w' : World} {lo hi x y : Nat} {r : SR} (h : SRow w lo hi r) (hw : Within x y w w') (ha : y ≤ lo ∨ hi ≤ x) : SRow w' lo hi r := h.same (fun b h1 h2 => hw.block b (by have := h.hz; omega) (by omega)) hw.size
theorem SRow.wide {w : World} {lo hi hi' : Nat} {r : SR} (h : SRow w lo hi r) (h1 : hi ≤ hi') (h2 : hi' ≤ w.heap.size) : SRow w lo hi' r := ⟨h.m.wide (Nat.le_refl _) h1, h.r.wide (Nat.le_refl _) h1, h.o, fun k hk => Nat.lt_of_lt_of_le (h.oh k hk) h1, h2, h.ok, h.s8, h.nz, h.dj⟩
theorem SRow.lo {w : World} {lo lo' hi : Nat} {r : SR} (h : SRow w lo hi r) (h1 : lo' ≤ lo) : SRow w lo' hi r := ⟨h.m.wide h1 (Nat.le_refl _), h.r.wide h1 (Nat.le_refl _), row_le h.o h1, h.oh, h.hz, h.ok, h.s8, h.nz, h.dj⟩
theorem srow_of {w0 w : World} {T lo1 hi1 lo2 hi2 : Nat} (ja : Option Addr) (jc : Nat) (qa : Option Addr) (qc : Nat) (l : List (Int × Int)) (s : List Sib) (hm : OwnIn w lo1 hi1 ja l) (hr : SOwnIn w lo2 hi2 qa s) (g1 : w0.heap.size ≤ lo1) (g2 : w0.heap.size ≤ lo2) (g3 : hi1 ≤ w.heap.size) (g4 : hi2 ≤ w.heap.size)
    (hrw : w.ownsRow w0.heap.size 94 4 (.slice qa s.length qc) s.length (flatE 4 senc s)) (hT : T ≤ w0.heap.size) (ok : Fine l s) (hs8 : s.length ≤ 8) (hnz : s = [] → qa = none) (g5 : hi1 ≤ lo2 ∨ hi2 ≤ lo1) : SRow w T w.heap.size ⟨ja, jc, l, qa, qc, s⟩ := by
  refine ⟨hm.wide (by omega) g3, hr.wide (by omega) g4, row_le hrw hT, fun k hk => (hrw.lt k hk).2, Nat.le_refl _, ok, hs8, hnz, ?_⟩
  rcases hm with h0 | ⟨k, h1, h2, h3, _⟩
  · exact .inl h0
  · refine .inr fun p q hp hq hs => ?_
    rcases hr with h4 | ⟨k', h5, h6, h7, _⟩
    · exact absurd h4 hs
    · simp only at hp hq
      rw [h1] at hp
      rw [h5] at hq
      cases hp; cases hq
      simp only; omega
structure Thr (w wr : World) (B g T H : Nat) (F : Nat → SR) : Prop where
  c : ∀ j, j < 3 → wr.cell? ⟨T, j * 2, none⟩ = some (F j).va ∧ wr.cell? ⟨T, j * 2 + 1, none⟩ = some (F j).vb
  f : ∀ k, wr.frozen? ⟨T, k, none⟩ = false
  r : ∀ j, j < 3 → SRow wr (T + 1) H (F j)
  src : HasSrc wr B g
  wi : Within g (g + 1) w wr
  gT : g < w.heap.size
  wT : w.heap.size ≤ T
  tH : T < H
  hz : H ≤ wr.heap.size
section
variable {w wr w' : World} {B g T H : Nat} {F : Nat → SR}
theorem Thr.below (h : Thr w wr B g T H F) (hb : Below wr.heap.size wr w') : Thr w w' B g T H F := by
  have h1 := h.tH
  have h2 := h.hz
  exact ⟨fun j hj => ⟨(hb.cell (p := ⟨T, j * 2, none⟩) (by simp only; omega)).trans (h.c j hj).1, (hb.cell (p := ⟨T, j * 2 + 1, none⟩) (by simp only; omega)).trans (h.c j hj).2⟩, fun k => (hb.frozen (p := ⟨T, k, none⟩) (by simp only; omega)).trans (h.f k),
    fun j hj => (h.r j hj).below hb, h.src.below hb, h.wi.onto hb, h.gT, h.wT, h.tH, Nat.le_trans h2 hb.size⟩
theorem Thr.drawn (h : Thr w wr B g T H F) (hs : HasSrc w' B g) (hw : Within g (g + 1) wr w') : Thr w w' B g T H F := by
  have h1 := h.tH
  have h2 := h.hz
  have h3 := h.gT
  have h4 := h.wT
  have hh := hw.block T (by omega) (.inr (by omega))
  exact ⟨fun j hj => ⟨(World.cell?_of_block (a := ⟨T, j * 2, none⟩) hh).trans (h.c j hj).1, (World.cell?_of_block (a := ⟨T, j * 2 + 1, none⟩) hh).trans (h.c j hj).2⟩, fun k => (World.frozen?_of_block (a := ⟨T, k, none⟩) hh).trans (h.f k),
    fun j hj => (h.r j hj).far hw (.inl (by omega)), hs, h.wi.trans hw, h.gT, h.wT, h.tH, Nat.le_trans h2 hw.size⟩
theorem Thr.far {x : Nat} (h : Thr w wr B g T H F) (hw : Within x (x + 1) wr w') (hx : H ≤ x) : Thr w w' B g T H F := by
  have h1 := h.tH
  have h2 := h.hz
  have h3 := h.gT
  have h4 := h.wT
  have h5 := h.src.lt
  have hh := hw.block T (by omega) (.inl (by omega))
  exact ⟨fun j hj => ⟨(World.cell?_of_block (a := ⟨T, j * 2, none⟩) hh).trans (h.c j hj).1, (World.cell?_of_block (a := ⟨T, j * 2 + 1, none⟩) hh).trans (h.c j hj).2⟩, fun k => (World.frozen?_of_block (a := ⟨T, k, none⟩) hh).trans (h.f k),
    fun j hj => (h.r j hj).far hw (.inr (by omega)), h.src.within hw (.inl (by omega)) (by omega), h.wi.new hw (by omega), h.gT, h.wT, h.tH, Nat.le_trans h2 hw.size⟩
theorem Thr.wide {H' : Nat} (h : Thr w wr B g T H F) (h1 : H ≤ H') (h2 : H' ≤ wr.heap.size) : Thr w wr B g T H' F :=
  ⟨h.c, h.f, fun j hj => (h.r j hj).wide h1 h2, h.src, h.wi, h.gT, h.wT, Nat.lt_of_lt_of_le h.tH h1, h2⟩
theorem Thr.put {R : SR} (h : Thr w wr B g T H F) (i : Nat) (hi : i < 3) (hR : SRow wr (T + 1) H R) : Thr w ((wr.setCell ⟨T, i * 2, none⟩ R.va).setCell ⟨T, i * 2 + 1, none⟩ R.vb) B g T H (fun j => if j = i then R else F j) := by
  have h1 := h.tH
  have h2 := h.hz
  have h3 := h.gT
  have h4 := h.wT
  have h5 := h.src.lt
  have hw : Within T (T + 1) wr ((wr.setCell ⟨T, i * 2, none⟩ R.va).setCell ⟨T, i * 2 + 1, none⟩ R.vb) := (one_store wr T (i * 2) R.va).trans (one_store _ T (i * 2 + 1) R.vb)
  have other : ∀ (W : World) (p q : Nat) (v : Value), p ≠ q → (W.setCell ⟨T, p, none⟩ v).cell? ⟨T, q, none⟩ = W.cell? ⟨T, q, none⟩ := fun W p q v h => World.cell?_setCell_other _ _ _ _ (Go.Proofs.YtiaoifodaoifjaaGreat.Mk.ne_off h)
  refine ⟨fun j hj => ?_, fun k => by rw [World.frozen?_setCell, World.frozen?_setCell]; exact h.f k, fun j hj => ?_, h.src.within hw (.inl (by omega)) (by omega), h.wi.new hw (by omega), h.gT, h.wT, h.tH, Nat.le_trans h2 hw.size⟩
  · by_cases e : j = i
    · subst e
      rw [if_pos rfl]
      refine ⟨?_, ?_⟩
      · rw [other _ _ _ _ (by omega)]; exact World.cell?_setCell_same _ _ _ (h.c j hj).1
      · exact World.cell?_setCell_same _ _ _ ((other _ _ _ _ (by omega)).trans (h.c j hj).2)
    · rw [if_neg e, other _ _ _ _ (by omega), other _ _ _ _ (by omega), other _ _ _ _ (by omega), other _ _ _ _ (by omega)]
      exact h.c j hj
  · by_cases e : j = i
    · rw [if_pos e]; exact hR.far hw (.inl (Nat.le_refl _))
    · rw [if_neg e]; exact (h.r j hj).far hw (.inl (Nat.le_refl _))
end
def zs2 : Array Value := #[.slice none 0 0, .slice none 0 0]
theorem infoSet : (Tryz.prog.info? 26).map (fun i => (i.zero, i.size, i.bytes)) = some (some (.agg #[.slice none 0 0, .slice none 0 0]), 2, 48) := by kernel_rfl
theorem run_make_sets (w : World) :
    (Instr.makeSlice 115 (.int .i64 3) (.int .i64 3)).run Tryz.prog w = .ok (.slice (some ⟨w.heap.size, 0, none⟩) 3 3) (w.alloc (.cells (madeCells zs2 6) 26)) := by
  obtain ⟨i0, hi, hz0, hz1, hz2⟩ := info_parts infoSet
  have := run_make (P := Tryz.prog) w 115 26 i0 _ Tryz.underlying115 hi hz0 .i64 .i64 3 3 (by omega) (by omega) (by rw [hz2]; omega) (by omega)
  rw [hz1] at this
  simpa [Value.cells, zs2] using this
theorem Thr.new (w : World) (B g : Nat) (h : HasSrc w B g) : Thr w (w.alloc (.cells (madeCells zs2 6) 26)) B g w.heap.size (w.heap.size + 1) (fun _ => SR.zero) := by
  have hb := step_alloc w (.cells (madeCells zs2 6) 26)
  have hl := h.lt
  refine ⟨fun j hj => ?_, fun k => by rw [World.frozen?_alloc_mark]; simp, fun j hj => SRow.zero _ _ _ (by simp), h.below hb, (Within.refl g (g + 1) w).onto hb, hl.2, Nat.le_refl _, Nat.lt_succ_self _, by simp⟩
  match j, hj with
  | 0, _ => exact ⟨by rw [World.cell?_alloc_mark]; simp [madeCells, zs2, SR.zero, SR.va], by rw [World.cell?_alloc_mark]; simp [madeCells, zs2, SR.zero, SR.vb]⟩
  | 1, _ => exact ⟨by rw [World.cell?_alloc_mark]; simp [madeCells, zs2, SR.zero, SR.va], by rw [World.cell?_alloc_mark]; simp [madeCells, zs2, SR.zero, SR.vb]⟩
  | 2, _ => exact ⟨by rw [World.cell?_alloc_mark]; simp [madeCells, zs2, SR.zero, SR.va], by rw [World.cell?_alloc_mark]; simp [madeCells, zs2, SR.zero, SR.vb]⟩
theorem keys3 : ∀ t ∈ [(⟨#[97]⟩ : ByteArray), ⟨#[98, 98]⟩, ⟨#[]⟩], t.size ≤ 4 := by
  intro t ht; simp at ht; rcases ht with rfl | rfl | rfl <;> decide
def GotThree (w : World) (B g : Nat) (e : Ending) (w' : World) : Prop := ∃ T F, e = .returned (.slice (some ⟨T, 0, none⟩) 3 3) ∧ Thr w w' B g T w'.heap.size F
set_option maxRecDepth 100000 in
set_option maxHeartbeats 8000000 in
theorem three_draw (w : World) (B g : Nat) (h : HasSrc w B g) : Calls Tryz.prog 72 #[.pointer (some ⟨g, 0, none⟩)] w (GotThree w B g) := by
  have L := jj (Thr.new w B g h)
  have hmk := run_make_sets w
  clear h
  go_enter Tryz.func72, Tryz.ntmps72
  go_wp2_with fail
  clear hmk
  refine (n_draw _ B g 9 (by decide) (by decide) L.out.src).mono ?_
  rintro e w1 ⟨k0, hk0, rfl, hs, hg⟩
  replace L := jj (L.out.drawn hs (within_grown hg))
  clear hs hg
  obtain ⟨T, hT⟩ : ∃ T, w.heap.size = T := ⟨_, rfl⟩
  have L0 := jj (L.out.wide (H' := w1.heap.size) L.out.hz (Nat.le_refl _))
  rw [hT] at L0 ⊢
  clear L hT
  go_wp2
  go_loopw [4] (fun i wr => ∃ (k : Nat) (F : Nat → SR), i = .int .i64 k ∧ k < 9 ∧ Thr w wr B g T wr.heap.size F) (fun i _ => (intOf i).toNat)
  case atStart => exact ⟨k0, _, rfl, hk0, L0.out⟩
  case round =>
    obtain ⟨k, F, rfl, hk, hl⟩ := hrel
    have L := jj hl
    clear hl L0
    cases k with
    | zero =>
      go_wp2
      go_ret
      exact ⟨T, F, rfl, L.out⟩
    | succ k =>
      have hk1 : (0 : Int) < ((k + 1 : Nat) : Int) := by omega
      go_wp2_with fail
      refine (n_draw _ B g 3 (by decide) (by decide) L.out.src).mono ?_
      rintro e w2 ⟨i, hi, rfl, hs, hg⟩
      have i0 : (0 : Int) ≤ (i : Int) := by omega
      have i3 : (i : Int) < 3 := by omega
      replace L := jj (L.out.drawn hs (within_grown hg))
      clear hs hg
      obtain ⟨H, hH⟩ : ∃ H, wr.heap.size = H := ⟨_, rfl⟩
      rw [hH] at L
      clear hH
      have hb := step_alloc w2 (.cells #[] 63)
      go_upto_region 7 with fail
      have Q := jj (show OwnIn (w2.alloc (.cells #[] 63)) (T + 1) w2.heap.size (some ⟨w2.heap.size, 0, none⟩) [] from .inl rfl)
      replace L := jj (L.out.below hb)
      have hzz : w2.heap.size ≤ (w2.alloc (.cells #[] 63)).heap.size := hb.size
      clear hb
      obtain ⟨M, hM⟩ : ∃ M, w2.heap.size = M := ⟨_, rfl⟩
      rw [hM] at Q hzz ⊢
      clear hM
      generalize w2.alloc (.cells #[] 63) = w3 at L Q hzz ⊢
      go_upto_if 21 with (go_at_call 42; refine (one_draw _ B g 2 (by decide) (by decide) L.out.src).mono ?_; rintro e w4 ⟨b1, rfl, hs, hg⟩; replace L := jj (L.out.drawn hs (within_grown hg)); clear hs hg)
      go_cut [6] (fun sl wx => ∃ (qa : Option Addr) (q : List (Int × Int)) (qc : Nat), sl = .slice qa q.length qc ∧ q.length ≤ 6 ∧ (∃ hq, OwnI wx (T + 1) hq qa q) ∧ Thr w wx B g T H F)
      case first =>
        cases b1
        · go_wp2_with fail
          go_meet
          exact ⟨_, [], 0, rfl, by simp, ⟨0, .inl rfl, Nat.zero_le _⟩, L.out⟩
        · go_wp2_with fail
          refine (n_draw _ B g 3 (by decide) (by decide) L.out.src).mono ?_
          rintro e w5 ⟨r1, hr1, rfl, hs, hg⟩
          replace L := jj (L.out.drawn hs (within_grown hg))
          clear hs hg
          have r10 : (0 : Int) ≤ (r1 : Int) := by omega
          have r13 : (r1 : Int) < 3 := by omega
          obtain ⟨c0, c1⟩ := L.out.c r1 hr1
          unfold SR.va at c0
          go_wp2_with fail
          go_meet
          exact ⟨_, (F r1).l, _, rfl, (L.out.r r1 hr1).ok.l6, ⟨H, (L.out.r r1 hr1).m, L.out.hz⟩, L.out⟩
      case rest =>
        obtain ⟨qa, q, qc, rfl, hq6, ⟨hqz, hq⟩, hl⟩ := hcut
        clear L Q hzz
        have L := jj hl
        have Q := jj hq
        clear hl hq
        go_wp2_with fail
        refine (one_draw _ B g 5 (by decide) (by decide) L.out.src).mono ?_
        rintro e w5 ⟨gn, rfl, hs, hg⟩
        have hgT := L.out.gT
        have hwT := L.out.wT
        replace Q := jj (Q.out.within (within_grown hg) (.inr (by omega)))
        replace L := jj (L.out.drawn hs (within_grown hg))
        clear hs hg
        go_upto_if 31 with fail
        go_cut [8] (fun sl wx => ∃ (d : ByteArray), d.size ≤ 4 ∧ sl = .string d ∧ OwnI wx (T + 1) hqz qa q ∧ Thr w wx B g T H F)
        case first =>
          cases gn
          · go_wp2_with fail
            have hb := step_alloc w5 (.cells #[.string ⟨#[97]⟩, .string ⟨#[98, 98]⟩, .string ⟨#[]⟩] 9)
            have hgl := L.out.src.lt
            replace Q := jj (Q.out.below hb)
            have L6 := jj (L.out.below hb)
            refine (pick_draw _ B g w5.heap.size 3 [⟨#[97]⟩, ⟨#[98, 98]⟩, ⟨#[]⟩] rfl (by omega) (by omega) keys3 (by omega) (STab.new w5 _ _) L6.out.src).mono ?_
            rintro e w6 ⟨t, ht, rfl, hs, hw⟩
            replace Q := jj (Q.out.within hw (.inr (by omega)))
            replace L := jj (L6.out.drawn hs hw)
            clear hs hw hb L6
            go_wp2_with fail
            go_meet
            exact ⟨t, ht, rfl, Q.out, L.out⟩
          · go_wp2_with fail
            go_meet
            exact ⟨⟨#[]⟩, by decide, rfl, Q.out, L.out⟩
        case rest =>
          obtain ⟨d, hd4, rfl, hq, hl⟩ := hcut
          clear L Q
          have L := jj hl
          have Q := jj hq
          clear hl hq
          obtain ⟨c0, c1⟩ := L.out.c i hi
          unfold SR.va at c0
          unfold SR.vb at c1
          obtain ⟨L1, hL1⟩ : ∃ x, spSeen (F i).l (F i).s q ((i : Int) + 1) d gn = x := ⟨_, rfl⟩
          obtain ⟨S1, hS1⟩ : ∃ x, spSibs (F i).l (F i).s q ((i : Int) + 1) d gn = x := ⟨_, rfl⟩
          obtain ⟨X1, hX1⟩ : ∃ x, spX (F i).l (F i).s q ((i : Int) + 1) d gn = x := ⟨_, rfl⟩
          obtain ⟨Y1, hY1⟩ : ∃ x, spY (F i).l (F i).s q ((i : Int) + 1) d gn = x := ⟨_, rfl⟩
          obtain ⟨C1, hC1⟩ : ∃ x, spC (F i).l (F i).s q ((i : Int) + 1) d gn = x := ⟨_, rfl⟩
          have hok : Fine L1 S1 := by rw [← hL1, ← hS1]; exact (L.out.r i hi).ok.put (WalkArith.wf_i64 (by omega)) (by omega)
          have h8S : S1.length ≤ 8 := by rw [← hS1]; exact spSibs_len _ _ _ _ _ _
          have HP := jj (spec_setPut_row (F i).a (F i).b qa (F i).ac (F i).bc qc (F i).l (F i).s q ((i : Int) + 1) d gn wc (L.out.r i hi).ok.len (L.out.r i hi).ok.lens (by unfold maxLen; omega) (by unfold maxLen; omega) (L.out.r i hi).ok.small (L.out.r i hi).m.at_ (L.out.r i hi).r.at_ Q.out.at_)
          rw [hL1, hS1, hX1, hY1, hC1] at HP
          clear hL1 hS1 hX1 hY1 hC1 Q
          go_wp2_with fail
          refine HP.out.mono ?_
          rintro e w7 ⟨ja, jc, pa, pc, lo1, hi1, lo2, hi2, rfl, hjo, hso, g1, g2, g3, g4, g5, hh, hb, hrw, hnz⟩
          have hHz := L.out.hz
          have hTH := L.out.tH
          have R := jj (srow_of (T := T + 1) ja jc pa pc L1 S1 hjo hso g1 g2 g3 g4 hrw (by omega) hok h8S hnz g5)
          replace L := jj (L.out.below hb)
          have hY5 : H ≤ w7.heap.size := Nat.le_trans hHz hb.size
          clear hjo hso g1 g2 g3 g4 g5 hh hb hrw hnz HP hHz c0 c1
          have hb := step_alloc w7 (.cells #[.slice ja L1.length jc, .slice pa S1.length pc, .int .i64 X1, .int .i64 Y1, .int .i64 C1] 65)
          have Y := jj (Cells.new w7 #[.slice ja L1.length jc, .slice pa S1.length pc, .int .i64 X1, .int .i64 Y1, .int .i64 C1] 65)
          simp only [List.toList_toArray] at Y
          go_upto_region 14 with fail
          replace R := jj (R.out.below hb)
          replace L := jj (L.out.below hb)
          obtain ⟨Y5, hY⟩ : ∃ Y5, w7.heap.size = Y5 := ⟨_, rfl⟩
          rw [hY] at Y R hY5 ⊢
          clear hb hY
          generalize w7.alloc (.cells #[.slice ja L1.length jc, .slice pa S1.length pc, .int .i64 X1, .int .i64 Y1, .int .i64 C1] 65) = w8 at Y R L ⊢
          go_upto_if 46 with (go_at_call 42; refine (one_draw _ B g 3 (by decide) (by decide) L.out.src).mono ?_; rintro e w8 ⟨b3, rfl, hs, hg⟩; replace Y := jj (Y.out.within (within_grown hg) (by omega)); replace R := jj (R.out.far (within_grown hg) (.inl (by omega))); replace L := jj (L.out.drawn hs (within_grown hg)); clear hs hg)
          go_cut [] (fun wx => ∃ (R : SR) (x y c : Int) (hR : Nat), Cells wx Y5 [R.va, R.vb, .int .i64 x, .int .i64 y, .int .i64 c] ∧ SRow wx (T + 1) hR R ∧ Thr w wx B g T H F)
          case first =>
            cases b3
            · go_wp2_with fail
              go_meet
              exact ⟨⟨ja, jc, L1, pa, pc, S1⟩, X1, Y1, C1, _, Y.out, R.out, L.out⟩
            · clear R
              obtain ⟨c0, c1⟩ := L.out.c i hi
              clear c0 c1
              go_upto_region 15 with fail
              have Ld := jj (L.out.below (show Below w8.heap.size w8 w8.drew from (Below.refl _ _).drew))
              have Yd := jj (Y.out.below (show Below w8.heap.size w8 w8.drew from (Below.refl _ _).drew))
              clear L Y
              refine wp_region_held_drew (S := (fun w' => ∀ j, j < 3 → w'.cell? ⟨T, j * 2, none⟩ = some (F j).va ∧ w'.cell? ⟨T, j * 2 + 1, none⟩ = some (F j).vb)) (by kernel_rfl) (by exact Ld.out.c) (fun hHeld => ?_)
              have L := jj Ld.out
              have Y := jj Yd.out
              clear Ld Yd
              generalize w8.drew = w9 at L Y hHeld ⊢
              refine tk 0 (v := ?_) ?_
              try walk_nrm
              refine tk 1 (v := ?_) ?_
              try walk_nrm
              refine tk 2 (v := ?_) ?_
              try walk_nrm
              refine tk 3 (v := ?_) ?_ (hy := by exact Or.inl ⟨by rfl, fun w hSw => by (try dsimp only at hSw); obtain ⟨q0, q1⟩ := hSw i hi; unfold SR.va at q0; unfold SR.vb at q1; go_simp; (try with_reducible rfl)⟩)
              try walk_nrm
              refine tk 4 (v := ?_) ?_
              try walk_nrm
              refine tk 5 (v := ?_) ?_
              try walk_nrm
              refine rd 6 (fun K hK => ?_)
              go_simp
              go_at_call 24
              refine (n_draw _ B g 3 (by decide) (by decide) L.out.src).mono ?_
              rintro e w10 ⟨r2, hr2, rfl, hs, hg⟩
              replace Y := jj (Y.out.within (within_grown hg) (by have := L.out.gT; have := L.out.wT; omega))
              replace L := jj (L.out.drawn hs (within_grown hg))
              clear hs hg
              have r20 : (0 : Int) ≤ (r2 : Int) := by omega
              have r23 : (r2 : Int) < 3 := by omega
              go_wp2_with fail
              refine hK.out _ _ (by exact L.out.c) (fun hHeld => ?_)
              clear hK K
              try walk_nrm
              refine tk 7 (v := ?_) ?_
              try walk_nrm
              refine tk 8 (v := ?_) ?_ (hy := by exact Or.inl ⟨by rfl, fun w hSw => by (try dsimp only at hSw); obtain ⟨q0, q1⟩ := hSw r2 hr2; unfold SR.va at q0; unfold SR.vb at q1; go_simp; (try with_reducible rfl)⟩)
              try walk_nrm
              refine rd 9 (fun K hK => ?_)
              go_simp
              go_at_call 94
              refine (spec_setSync_row (F i).a (F i).b (F r2).a (F r2).b (F i).ac (F i).bc (F r2).ac (F r2).bc (F i).l (F r2).l (F i).s (F r2).s _ (L.out.r i hi).ok.len (L.out.r r2 hr2).ok.len (L.out.r i hi).ok.lens (L.out.r r2 hr2).ok.lens (L.out.r i hi).ok.small (L.out.r r2 hr2).ok.small (L.out.r i hi).m.at_ (L.out.r r2 hr2).m.at_ (L.out.r i hi).r.at_ (L.out.r r2 hr2).r.at_).mono ?_
              rintro e w11 ⟨ja, jc, qa, qc, lo1, hi1, lo2, hi2, rfl, hjo, hso, g1, g2, g3, g4, g5, hh, hb, hrw, hnz⟩
              have hYl := Y.out.lt
              have hTl := L.out.tH
              have hHz := L.out.hz
              have R := jj (srow_of (T := Y5 + 1) ja jc qa qc (synSeen (F i).l (F i).s (F r2).l (F r2).s) (synSibs (F i).l (F i).s (F r2).l (F r2).s) hjo hso g1 g2 g3 g4 hrw (by omega) ((L.out.r i hi).ok.sync (L.out.r r2 hr2).ok) (synSibs_le _ _ _ _) hnz g5)
              replace Y := jj (Y.out.below hb)
              replace L := jj (L.out.below hb)
              clear hjo hso g1 g2 g3 g4 g5 hh hb hrw hnz hYl hTl hHz
              go_wp2_with fail
              refine hK.out _ _ (by exact L.out.c) (fun hHeld => ?_)
              clear hK K
              try walk_nrm
              refine rd 10 (fun K hK => ?_)
              go_simp
              obtain ⟨y0, y1, y2, y3, y4, e0, e1, e2, e3, e4⟩ := Y.out.c5
              go_simp
              clear y0 y1 y2 y3 y4 e0 e1 e2 e3 e4
              have hw := within_set5 w11 Y5 (.slice ja (synSeen (F i).l (F i).s (F r2).l (F r2).s).length jc) (.slice qa (synSibs (F i).l (F i).s (F r2).l (F r2).s).length qc) (.int .i64 0) (.int .i64 0) (.int .i64 (synC (F i).l (F i).s (F r2).l (F r2).s))
              replace Y := jj (cells_set5 Y.out (.slice ja (synSeen (F i).l (F i).s (F r2).l (F r2).s).length jc) (.slice qa (synSibs (F i).l (F i).s (F r2).l (F r2).s).length qc) (.int .i64 0) (.int .i64 0) (.int .i64 (synC (F i).l (F i).s (F r2).l (F r2).s)))
              replace R := jj (R.out.far hw (.inl (Nat.le_refl _)))
              replace L := jj (L.out.far hw hY5)
              have hws := hw.size
              clear hw
              refine hK.out _ _ (by exact L.out.c) (fun hHeld => ?_)
              clear hK K
              try walk_nrm
              refine rx ?_
              go_wp2_with fail
              go_meet
              exact ⟨⟨ja, jc, synSeen (F i).l (F i).s (F r2).l (F r2).s, qa, qc, synSibs (F i).l (F i).s (F r2).l (F r2).s⟩, 0, 0, synC (F i).l (F i).s (F r2).l (F r2).s, _, Y.out, R.out.lo (by omega), L.out⟩
          case rest =>
            obtain ⟨R1, x1, y1, c1, hR, hy, hr, hl⟩ := hcut
            clear L Y R
            have L := jj hl
            have Y := jj hy
            have R := jj hr
            clear hl hy hr
            obtain ⟨y0, yy1, y2, y3, y4, _, _, _, _, _⟩ := Y.out.c5
            obtain ⟨d0, d1⟩ := L.out.c i hi
            have f0 := L.out.f (i * 2)
            have f1 := L.out.f (i * 2 + 1)
            unfold SR.va at y0 d0
            unfold SR.vb at yy1 d1
            have LW := jj (L.out.wide (H' := wc.heap.size) L.out.hz (Nat.le_refl _))
            have RW := jj (R.out.wide (hi' := wc.heap.size) R.out.hz (Nat.le_refl _))
            by_cases hc0 : c1 = 0
            · subst hc0
              go_wp2
              go_roundw
              case rel => exact ⟨k, _, by go_num, by omega, (LW.out.put i hi RW.out).wide (by simp [World.setCell]) (Nat.le_refl _)⟩
              case measure => go_light; simp [intOf]
            · have hc1 : (c1 == 0) = false := by simpa using hc0
              go_wp2
              go_roundw
              case rel => exact ⟨k, F, by go_num, by omega, LW.out⟩
              case measure => go_light; simp [intOf]
end Go.Proofs.YtiaoifodaoifjaaGreat.Sb
