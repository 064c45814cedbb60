/- Draws for the chapter of the ring: a ring. What is drawn is not told, only its range. Condition: the code has at most 1048576 bytes. -/
import Derived.Test.YteibkoaepgdmlaaDoorDrawKey
import Derived.Test.YteibkoaepgdmlaaDoorRingS
set_option linter.unusedSimpArgs false
set_option linter.unusedVariables false
namespace Go.Proofs.YteibkoaepgdmlaaDoor.Rg
open Go.RowKit Go.Proofs.YteibkoaepgdmlaaDoor.Mk Go.Proofs.YteibkoaepgdmlaaDoor.Rw Go.Proofs.YteibkoaepgdmlaaDoor.Tk Go.Proofs.YteibkoaepgdmlaaDoor.Dr

theorem own_node {w : World} {g : Nat} {l : List Tok} (h : Own w g l) (hl : 0 < l.length) (y : Int) : ∃ l' : List Tok, l'.length = l.length ∧ Own (w.setCell ⟨g, 1, none⟩ (.int .i64 y)) g l' := by
  refine ⟨l.set 0 ((l[0]).1, y), by simp, ⟨fun i hi => ?_, fun i hi => ?_, fun j => by rw [World.frozen?_setCell]; exact h.free j⟩⟩
  · have hi' : i < l.length := by simpa using hi
    rw [World.cell?_setCell_other _ _ _ _ (Mk.ne_off (by omega)), h.cell0 i hi']
    by_cases e : i = 0
    · subst e; rw [List.getElem_set_self]
    · rw [List.getElem_set_ne (fun hh => e hh.symm)]
  · have hi' : i < l.length := by simpa using hi
    by_cases e : i = 0
    · subst e
      rw [show (⟨g, 0 * 2 + 1, none⟩ : Addr) = ⟨g, 1, none⟩ from rfl, World.cell?_setCell_same _ _ _ (h.cell1 0 hi'), List.getElem_set_self]
    · rw [World.cell?_setCell_other _ _ _ _ (Mk.ne_off (by omega)), h.cell1 i hi', List.getElem_set_ne (fun hh => e hh.symm)]
/-- what a drawn ring leaves -/
def DrawnRing (w : World) (B g : Nat) (e : Ending) (w' : World) : Prop :=
  ∃ (n : Int) (l : List Tok) (a : Option Addr) (cap : Nat), (0 ≤ n ∧ n ≤ 6) ∧ l.length ≤ 20 ∧ e = .returned (.agg #[.int .i64 n, .slice a l.length cap]) ∧ OwnIn w' w.heap.size w'.heap.size a l ∧ HasSrc w' B g ∧ Within g (g + 1) w w'
/-- what stands before the ring is handed back -/
structure Late (w W : World) (B g q : Nat) (n : Int) (a : Option Addr) (len cap : Nat) (l : List Tok) : Prop where
  ring : Cells W q [.int .i64 n, .slice a len cap]
  zero : Cells W w.heap.size [.int .i64 0, .slice none 0 0]
  toks : OwnI W (w.heap.size + 1) q a l
  src : HasSrc W B g
  held : Within g (g + 1) w W
theorem Late.below {w W W' : World} {B g q : Nat} {n : Int} {a : Option Addr} {len cap : Nat} {l : List Tok} (h : Late w W B g q n a len cap l) (hb : Below W.heap.size W W') : Late w W' B g q n a len cap l :=
  ⟨h.ring.below hb, h.zero.below hb, h.toks.below hb, h.src.below hb, h.held.onto hb⟩
theorem Late.drawn {w W W' : World} {B g q : Nat} {n : Int} {a : Option Addr} {len cap : Nat} {l : List Tok} (h : Late w W B g q n a len cap l) (hg : g < w.heap.size) (hq : w.heap.size < q) (hs : HasSrc W' B g) (hw : Within g (g + 1) W W') : Late w W' B g q n a len cap l :=
  ⟨h.ring.within hw (by omega), h.zero.within hw (by omega), h.toks.within hw (by omega), hs, h.held.trans hw⟩
theorem Late.node {w W : World} {B g q : Nat} {n : Int} {a : Option Addr} {len cap : Nat} {l : List Tok} (h : Late w W B g q n a len cap l) (hg : g < w.heap.size) (hB : B ≤ w.heap.size) (hq : w.heap.size < q) (x : Int) : Late w (W.setCell ⟨q, 0, none⟩ (.int .i64 x)) B g q x a len cap l :=
  have hw := one_store W q 0 (.int .i64 x)
  ⟨h.ring.set 0 (by simp) _, h.zero.within hw (by omega), h.toks.within hw (by omega), h.src.within hw (by omega) (by omega), h.held.new hw (by omega)⟩
theorem Late.tok {w W : World} {B g q : Nat} {n : Int} {k : Nat} {len cap : Nat} {l : List Tok} (h : Late w W B g q n (some ⟨k, 0, none⟩) len cap l) (hg : g < w.heap.size) (hB : B ≤ w.heap.size) (hq : w.heap.size < q) (hl : 0 < l.length) (x : Int) : ∃ l' : List Tok, l'.length = l.length ∧ Late w (W.setCell ⟨k, 1, none⟩ (.int .i64 x)) B g q n (some ⟨k, 0, none⟩) len cap l' := by
  have hw := one_store W k 1 (.int .i64 x)
  obtain ⟨h1, h2⟩ := h.toks
  rcases h1 with h1 | ⟨k', ha, k1, k2, ho⟩
  · subst h1; simp at hl
  · injection ha with ha; injection ha with ha; subst ha
    obtain ⟨l', e, ho'⟩ := own_node ho hl x
    exact ⟨l', e, h.ring.within hw (by omega), h.zero.within hw (by omega), ⟨.inr ⟨k, rfl, k1, k2, ho'⟩, Nat.le_trans h2 hw.size⟩, h.src.within hw (by omega) (by omega), h.held.new hw (by omega)⟩
theorem Late.tcell {w W : World} {B g q : Nat} {n : Int} {k : Nat} {len cap : Nat} {l : List Tok} (h : Late w W B g q n (some ⟨k, 0, none⟩) len cap l) (hl : 0 < l.length) : ∃ v, W.cell? ⟨k, 1, none⟩ = some v ∧ W.frozen? ⟨k, 1, none⟩ = false := by
  rcases h.toks.1 with h1 | ⟨k', ha, k1, k2, ho⟩
  · subst h1; simp at hl
  · injection ha with ha; injection ha with ha; subst ha
    exact ⟨_, ho.cell1 0 hl, ho.free 1⟩
theorem Late.gives {w W : World} {B g q : Nat} {n : Int} {a : Option Addr} {len cap : Nat} {l : List Tok} (h : Late w W B g q n a len cap l) (hg : g < w.heap.size) (hB : B ≤ w.heap.size) (hq : w.heap.size < q) (hl : l.length = len) (hn : 0 ≤ n ∧ n ≤ 6) (h20 : len ≤ 20) :
    DrawnRing w B g (.returned (.agg #[.int .i64 n, .slice a len cap])) ((W.setCell ⟨w.heap.size, 0, none⟩ (.int .i64 n)).setCell ⟨w.heap.size, 1, none⟩ (.slice a len cap)) := by
  have hw := ((Within.refl w.heap.size (w.heap.size + 1) W).setCell (p := ⟨w.heap.size, 0, none⟩) (Nat.le_refl _) (Nat.lt_succ_self _) (.int .i64 n)).setCell (p := ⟨w.heap.size, 1, none⟩) (Nat.le_refl _) (Nat.lt_succ_self _) (.slice a len cap)
  subst hl
  have ht := h.toks.within hw (by omega)
  exact ⟨n, l, a, cap, hn, h20, rfl, ht.1.wide (by omega) ht.2, h.src.within hw (by omega) hB, h.held.new hw (Nat.le_refl _)⟩
theorem Late.cells {w W : World} {B g q : Nat} {n : Int} {a : Option Addr} {len cap : Nat} {l : List Tok} (h : Late w W B g q n a len cap l) :
    ((W.setCell ⟨w.heap.size, 0, none⟩ (.int .i64 n)).setCell ⟨w.heap.size, 1, none⟩ (.slice a len cap)).cell? ⟨w.heap.size, 0, none⟩ = some (.int .i64 n) ∧ ((W.setCell ⟨w.heap.size, 0, none⟩ (.int .i64 n)).setCell ⟨w.heap.size, 1, none⟩ (.slice a len cap)).cell? ⟨w.heap.size, 1, none⟩ = some (.slice a len cap) := by
  obtain ⟨d0, d1, _, _⟩ := ((h.zero.set 0 (by simp) (.int .i64 n)).set 1 (by simp) (.slice a len cap)).c2
  exact ⟨d0, d1⟩

set_option maxRecDepth 100000 in
set_option maxHeartbeats 2000000 in
theorem ring_draw (w : World) (B g : Nat) (hB : B ≤ w.heap.size) (h : HasSrc w B g) : Calls Tryd.prog 42 #[.pointer (some ⟨g, 0, none⟩)] w (DrawnRing w B g) := by
  have hgw := h.lt.2
  have ZA := Lib.hid (Cells.new w #[.int .i64 0, .slice none 0 0] 27)
  have BA := step_alloc w (.cells #[.int .i64 0, .slice none 0 0] 27)
  have SA := Lib.hid (h.below BA)
  have WA := Lib.hid ((Within.refl g (g + 1) w).onto BA)
  have hsz : (w.alloc (.cells #[.int .i64 0, .slice none 0 0] 27)).heap.size = w.heap.size + 1 := by simp
  clear h BA
  go_enter Tryd.func42, Tryd.ntmps42
  go_wp2_with fail
  generalize w.alloc (.cells #[.int .i64 0, .slice none 0 0] 27) = wa at ZA SA WA hsz ⊢
  refine (n_draw wa B g 5 (by omega) (by omega) SA.out).mono ?_
  rintro e w1 ⟨r1, hr1, rfl, hs, hg⟩
  have hw := within_grown hg
  have Z1 := Lib.hid (ZA.out.within hw (by omega))
  have S1 := Lib.hid hs
  have W1 := Lib.hid (WA.out.trans hw)
  have z1 : w.heap.size + 1 ≤ w1.heap.size := by have := hw.size; omega
  clear hs hg hw ZA SA WA hsz
  go_wp2_with fail
  refine (n_draw w1 B g 4 (by omega) (by omega) S1.out).mono ?_
  rintro e w2 ⟨r2, hr2, rfl, hs, hg⟩
  have hw := within_grown hg
  have Z2 := Lib.hid (Z1.out.within hw (by omega))
  have S2 := Lib.hid hs
  have W2 := Lib.hid (W1.out.trans hw)
  have z2 : w.heap.size + 1 ≤ w2.heap.size := by have := hw.size; omega
  clear hs hg hw Z1 S1 W1
  obtain ⟨n, hn⟩ : ∃ n : Nat, n = 1 + r1 := ⟨_, rfl⟩
  obtain ⟨m, hm⟩ : ∃ m : Nat, m = 1 + r2 := ⟨_, rfl⟩
  have en : (1 : Int) + (r1 : Int) = (n : Int) := by omega
  have em : (1 : Int) + (r2 : Int) = (m : Int) := by omega
  have hn1 : 1 ≤ n ∧ n ≤ 5 := by omega
  have hm1 : 1 ≤ m ∧ m ≤ 4 := by omega
  have hq1 := Lib.hid (spec_l04New n m w2 hn1.1 hn1.2 hm1.1 (by omega))
  clear hn hm
  go_wp2_with fail
  refine hq1.out.mono ?_
  rintro e w3 ⟨a, cap, rfl, ho, hb⟩
  clear hq1
  have hlen : (ringL n m).length = n * m := ringL_length n m
  have h20 : n * m ≤ 20 := Nat.mul_le_mul hn1.2 hm1.2
  have h1 : 1 ≤ n * m := Nat.mul_le_mul hn1.1 hm1.1
  generalize ringL n m = l at ho hlen ⊢
  rw [hlen]
  generalize n * m = len at hlen h20 h1 ⊢
  obtain ⟨k, ha, k1, k2, ho'⟩ : ∃ k, a = some ⟨k, 0, none⟩ ∧ w2.heap.size ≤ k ∧ k < w3.heap.size ∧ Own w3 k l := by
    rcases ho with ho | ho
    · subst ho; simp at hlen; omega
    · exact ho
  subst ha
  have z3 : w.heap.size < w3.heap.size := by have := hb.size; omega
  have L3 := Lib.hid (show Late w (w3.alloc (.cells #[.int .i64 (n : Int), .slice (some ⟨k, 0, none⟩) len cap] 27)) B g w3.heap.size n (some ⟨k, 0, none⟩) len cap l from
    have hb2 := step_alloc w3 (.cells #[.int .i64 (n : Int), .slice (some ⟨k, 0, none⟩) len cap] 27)
    ⟨Cells.new w3 _ _, (Z2.out.below hb).below hb2, OwnI.below ⟨.inr ⟨k, rfl, by omega, k2, ho'⟩, Nat.le_refl _⟩ hb2, (S2.out.below hb).below hb2, (W2.out.onto hb).onto hb2⟩)
  have HLe := Lib.hid hlen
  obtain ⟨q, hqq⟩ : ∃ q, q = w3.heap.size := ⟨_, rfl⟩
  rw [← hqq] at z3
  rw [← hqq] at L3
  clear ho ho' hb Z2 S2 W2 hlen k1 k2 em en
  go_wp2_with fail
  try rw [← hqq]
  generalize w3.alloc (.cells #[.int .i64 (n : Int), .slice (some ⟨k, 0, none⟩) len cap] 27) = w4 at L3 ⊢
  clear hqq
  refine (one_draw w4 B g 15 (by omega) (by omega) L3.out.src).mono ?_
  rintro e w5 ⟨r, rfl, hs, hg⟩
  have L5 := Lib.hid (L3.out.drawn hgw z3 hs (within_grown hg))
  clear hs hg L3
  cases r
  · obtain ⟨c0, c1, _, _⟩ := L5.out.ring.c2
    obtain ⟨y0, y1, yf0, yf1⟩ := L5.out.zero.c2
    obtain ⟨d0, d1⟩ := L5.out.cells
    go_wp2
    exact bodyPost_ret (v := .agg #[.int .i64 (n : Int), .slice (some ⟨k, 0, none⟩) len cap]) (by simp [results, Tryd.results42, go_sem, d0, d1]) rfl (L5.out.gives hgw hB z3 HLe.out (by omega) h20)
  · go_wp2_with fail
    refine (n_draw w5 B g 2 (by omega) (by omega) L5.out.src).mono ?_
    rintro e w6 ⟨r, hr, rfl, hs, hg⟩
    have L6 := Lib.hid (L5.out.drawn hgw z3 hs (within_grown hg))
    clear hs hg L5
    by_cases h0 : r = 0
    · subst h0
      go_wp2_with fail
      refine (n_draw w6 B g 7 (by omega) (by omega) L6.out.src).mono ?_
      rintro e w7 ⟨x, hx, rfl, hs, hg⟩
      have L7 := Lib.hid (L6.out.drawn hgw z3 hs (within_grown hg))
      clear hs hg L6
      obtain ⟨c0, c1, f0, f1⟩ := L7.out.ring.c2
      have L8 := Lib.hid (L7.out.node hgw hB z3 (x : Int))
      clear L7
      obtain ⟨e0, e1, _, _⟩ := L8.out.ring.c2
      obtain ⟨y0, y1, yf0, yf1⟩ := L8.out.zero.c2
      obtain ⟨d0, d1⟩ := L8.out.cells
      go_wp2
      exact bodyPost_ret (v := .agg #[.int .i64 (x : Int), .slice (some ⟨k, 0, none⟩) len cap]) (by simp [results, Tryd.results42, go_sem, d0, d1]) rfl (L8.out.gives hgw hB z3 HLe.out (by omega) h20)
    · have e0 : ((r : Int) == 0) = false := by simp; omega
      go_wp2_with fail
      have L7 := Lib.hid (L6.out.below (step_drew w6))
      clear L6
      have kc := L7.out.ring.c2.2.1
      have t0 : 0 < len := h1
      refine wp_region_held_drew (S := fun W => W.cell? ⟨q, 1, none⟩ = some (.slice (some ⟨k, 0, none⟩) len cap)) (by kernel_rfl) (by first | exact kc | assumption) (fun hHeld => ?_)
      refine wpAnyH_take (i := 0) (v := ?_) rfl (by kernel_rfl) (by kernel_rfl) (by kernel_rfl) (fun _ _ _ h => h) (Or.inl ⟨by rfl, fun w hSw => by (try dsimp only at hSw); go_simp; (try with_reducible rfl)⟩) (by assumption) ?_
      try simp only [Act.put, List.setIfInBounds_toArray, List.set_cons_zero, List.set_cons_succ, List.getElem_toArray, List.getElem_cons_zero, List.getElem_cons_succ]
      refine wpAnyH_take (i := 1) (v := ?_) rfl (by kernel_rfl) (by kernel_rfl) (by kernel_rfl) (fun _ _ _ h => h) (Or.inl ⟨by rfl, fun w hSw => by (try dsimp only at hSw); go_simp; (try with_reducible rfl)⟩) (by assumption) ?_
      try simp only [Act.put, List.setIfInBounds_toArray, List.set_cons_zero, List.set_cons_succ, List.getElem_toArray, List.getElem_cons_zero, List.getElem_cons_succ]
      refine wpAnyH_take (i := 2) (v := ?_) rfl (by kernel_rfl) (by kernel_rfl) (by kernel_rfl) (fun _ _ _ h => h) (Or.inl ⟨by rfl, fun w hSw => by (try dsimp only at hSw); go_simp; (try with_reducible rfl)⟩) (by assumption) ?_
      try simp only [Act.put, List.setIfInBounds_toArray, List.set_cons_zero, List.set_cons_succ, List.getElem_toArray, List.getElem_cons_zero, List.getElem_cons_succ]
      refine wpAnyH_ready (rs := [3]) (by kernel_rfl) (by simp) ?_
      refine AllReadyH.cons rfl (fun K hK => ?_) AllReadyH.nil
      go_simp
      go_at_call 41
      refine (n_draw _ B g 6 (by omega) (by omega) L7.out.src).mono ?_
      rintro e w8 ⟨x, hx, rfl, hs, hg⟩
      have L8 := Lib.hid (L7.out.drawn hgw z3 hs (within_grown hg))
      clear hs hg L7 kc
      have kc := L8.out.ring.c2.2.1
      obtain ⟨vt, tc, tf⟩ := L8.out.tcell (by have := HLe.out; omega)
      go_wp2_with fail
      refine hK.out _ _ (by first | exact kc | assumption) (fun hHeld => ?_)
      clear hK K
      try simp only [Act.put, List.setIfInBounds_toArray, List.set_cons_zero, List.set_cons_succ, List.getElem_toArray, List.getElem_cons_zero, List.getElem_cons_succ]
      refine wpAnyH_take (i := 4) (v := ?_) rfl (by kernel_rfl) (by kernel_rfl) (by kernel_rfl) (fun _ _ _ h => h) (Or.inl ⟨by rfl, fun w hSw => by (try dsimp only at hSw); go_simp; (try with_reducible rfl)⟩) (by assumption) ?_
      try simp only [Act.put, List.setIfInBounds_toArray, List.set_cons_zero, List.set_cons_succ, List.getElem_toArray, List.getElem_cons_zero, List.getElem_cons_succ]
      refine wpAnyH_take (i := 5) (v := ?_) rfl (by kernel_rfl) (by kernel_rfl) (by kernel_rfl) (fun _ _ _ h => h) (Or.inl ⟨by rfl, fun w hSw => by (try dsimp only at hSw); go_simp; (try with_reducible rfl)⟩) (by assumption) ?_
      try simp only [Act.put, List.setIfInBounds_toArray, List.set_cons_zero, List.set_cons_succ, List.getElem_toArray, List.getElem_cons_zero, List.getElem_cons_succ]
      refine wpAnyH_ready (rs := [6]) (by kernel_rfl) (by simp) ?_
      refine AllReadyH.cons rfl (fun K hK => ?_) AllReadyH.nil
      go_simp
      --op
      obtain ⟨l', e', hL9⟩ := L8.out.tok hgw hB z3 (by have := HLe.out; omega) (x : Int)
      have HLe' := Lib.hid (e'.trans HLe.out)
      have L9 := Lib.hid hL9
      clear hL9 e'
      have kc := L9.out.ring.c2.2.1
      refine hK.out _ _ (by first | exact kc | assumption) (fun hHeld => ?_)
      clear hK K
      try simp only [Act.put, List.setIfInBounds_toArray, List.set_cons_zero, List.set_cons_succ, List.getElem_toArray, List.getElem_cons_zero, List.getElem_cons_succ]
      refine wpAnyH_done (by kernel_rfl) ?_ _
      clear kc hHeld L8 HLe tc tf
      generalize w8.setCell ⟨k, 1, none⟩ (.int .i64 (x : Int)) = w9 at L9 ⊢
      obtain ⟨c0, c1, _, _⟩ := L9.out.ring.c2
      obtain ⟨y0, y1, yf0, yf1⟩ := L9.out.zero.c2
      obtain ⟨d0, d1⟩ := L9.out.cells
      go_wp2
      exact bodyPost_ret (v := .agg #[.int .i64 (n : Int), .slice (some ⟨k, 0, none⟩) len cap]) (by simp [results, Tryd.results42, go_sem, d0, d1]) rfl (L9.out.gives hgw hB z3 HLe'.out (by omega) h20)
end Go.Proofs.YteibkoaepgdmlaaDoor.Rg
