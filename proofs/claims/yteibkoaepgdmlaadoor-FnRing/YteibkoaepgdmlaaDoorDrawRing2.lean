/- Draws for the chapter of the ring: a ring and a key, a ring, a key and a number. What is drawn is not told, only its range. Condition: the code has at most 1048576 bytes. -/
import Derived.Test.YteibkoaepgdmlaaDoorDrawRing
set_option linter.unusedSimpArgs false
set_option linter.unusedVariables false
namespace Go.Proofs.YteibkoaepgdmlaaDoor.Rg
open Go.RowKit Go.Proofs.YteibkoaepgdmlaaDoor.Mk Go.Proofs.YteibkoaepgdmlaaDoor.Rw Go.Proofs.YteibkoaepgdmlaaDoor.Tk Go.Proofs.YteibkoaepgdmlaaDoor.Dr

/-- what stands while a ring lies in its variable q and the source in g -/
structure Lies (w W : World) (B g q : Nat) (n : Int) (a : Option Addr) (len cap : Nat) (l : List Tok) : Prop where
  ring : Cells W q [.int .i64 n, .slice a len cap]
  zero : Cells W w.heap.size [.int .i64 0, .slice none 0 0]
  toks : OwnI W (g + 1) q a l
  src : HasSrc W B g
  held : Below w.heap.size w W
theorem Lies.below {w W W' : World} {B g q : Nat} {n : Int} {a : Option Addr} {len cap : Nat} {l : List Tok} (h : Lies w W B g q n a len cap l) (hb : Below W.heap.size W W') : Lies w W' B g q n a len cap l :=
  ⟨h.ring.below hb, h.zero.below hb, h.toks.below hb, h.src.below hb, Base.below h.held hb⟩
theorem Lies.drawn {w W W' : World} {B g q : Nat} {n : Int} {a : Option Addr} {len cap : Nat} {l : List Tok} (h : Lies w W B g q n a len cap l) (hg : w.heap.size < g) (hq : g < q) (hs : HasSrc W' B g) (hw : Within g (g + 1) W W') : Lies w W' B g q n a len cap l :=
  ⟨h.ring.within hw (by omega), h.zero.within hw (by omega), h.toks.within hw (by omega), hs, bw h.held hw (by omega)⟩
/-- the ring as it is handed back -/
structure Back (w W : World) (n : Int) (a : Option Addr) (len cap : Nat) (l : List Tok) : Prop where
  c0 : W.cell? ⟨w.heap.size, 0, none⟩ = some (.int .i64 n)
  c1 : W.cell? ⟨w.heap.size, 1, none⟩ = some (.slice a len cap)
  toks : OwnIn W w.heap.size W.heap.size a l
  held : Below w.heap.size w W
theorem Lies.back {w W : World} {B g q : Nat} {n : Int} {a : Option Addr} {len cap : Nat} {l : List Tok} (h : Lies w W B g q n a len cap l) (hg : w.heap.size < g) (hq : g < q) :
    Back w ((W.setCell ⟨w.heap.size, 0, none⟩ (.int .i64 n)).setCell ⟨w.heap.size, 1, none⟩ (.slice a len cap)) n a len cap l := by
  have hw := ((Within.refl w.heap.size (w.heap.size + 1) W).setCell (p := ⟨w.heap.size, 0, none⟩) (Nat.le_refl _) (Nat.lt_succ_self _) (.int .i64 n)).setCell (p := ⟨w.heap.size, 1, none⟩) (Nat.le_refl _) (Nat.lt_succ_self _) (.slice a len cap)
  obtain ⟨d0, d1, _, _⟩ := ((h.zero.set 0 (by simp) (.int .i64 n)).set 1 (by simp) (.slice a len cap)).c2
  have ht := h.toks.within hw (by omega)
  exact ⟨d0, d1, ht.1.wide (by omega) ht.2, bw h.held hw (Nat.le_refl _)⟩
/-- what a draw of a ring and a key leaves -/
def GotRK (w : World) (e : Ending) (w' : World) : Prop :=
  ∃ (n : Int) (l : List Tok) (a : Option Addr) (cap : Nat) (key : ByteArray), (0 ≤ n ∧ n ≤ 6) ∧ l.length ≤ 20 ∧ key.size ≤ 4 ∧ e = .returned (.tuple #[.agg #[.int .i64 n, .slice a l.length cap], .string key]) ∧ OwnIn w' w.heap.size w'.heap.size a l ∧ Below w.heap.size w w'
def GotRKN (w : World) (e : Ending) (w' : World) : Prop :=
  ∃ (n : Int) (l : List Tok) (a : Option Addr) (cap : Nat) (key : ByteArray) (k : Nat), (0 ≤ n ∧ n ≤ 6) ∧ l.length ≤ 20 ∧ key.size ≤ 4 ∧ k < 7 ∧ e = .returned (.tuple #[.agg #[.int .i64 n, .slice a l.length cap], .string key, .int .i64 (k : Int)]) ∧ OwnIn w' w.heap.size w'.heap.size a l ∧ Below w.heap.size w w'
set_option maxRecDepth 100000 in
set_option maxHeartbeats 2000000 in
theorem drawOrder (w : World) (a : Option Addr) (len cap : Nat) (h : Mk.Code w a len) : Calls Tryd.prog 10 #[.slice a len cap] w (GotRK w) := by
  have ZA := Lib.hid (Cells.new w #[.int .i64 0, .slice none 0 0] 27)
  have BA := Lib.hid (step_alloc w (.cells #[.int .i64 0, .slice none 0 0] 27))
  have HC := Lib.hid (show Mk.Code (w.alloc (.cells #[.int .i64 0, .slice none 0 0] 27)) a len from ⟨h.1, (h.2.below BA.out).mono BA.out.size⟩)
  have hsz : (w.alloc (.cells #[.int .i64 0, .slice none 0 0] 27)).heap.size = w.heap.size + 1 := by simp
  clear h
  go_enter Tryd.func10, Tryd.ntmps10
  go_wp2_with fail
  generalize w.alloc (.cells #[.int .i64 0, .slice none 0 0] 27) = wa at ZA BA HC hsz ⊢
  refine (source_new wa a len cap HC.out.1 HC.out.2).mono ?_
  rintro e w1 ⟨rfl, hs1, hb1⟩
  obtain ⟨g, hg⟩ : ∃ g, g = wa.heap.size := ⟨_, rfl⟩
  have hz : w.heap.size < g := by omega
  have Z1 := Lib.hid (ZA.out.below hb1)
  have B1 := Lib.hid (Base.below BA.out hb1)
  rw [← hg] at hs1 ⊢
  have S1 := Lib.hid hs1
  have z1 := hs1.lt.2
  clear hs1 hb1 ZA BA HC hsz hg
  go_wp2_with fail
  refine (ring_draw w1 g g (by omega) S1.out).mono ?_
  rintro e w2 ⟨n, l, qa, qc, hn, h20, rfl, ho, hs, hw⟩
  have z2 : w1.heap.size ≤ w2.heap.size := hw.size
  have L3 := Lib.hid (show Lies w (w2.alloc (.cells #[.int .i64 n, .slice qa l.length qc] 27)) g g w2.heap.size n qa l.length qc l from
    have hb2 := step_alloc w2 (.cells #[.int .i64 n, .slice qa l.length qc] 27)
    ⟨Cells.new w2 _ _, (Z1.out.within hw (by omega)).below hb2, OwnI.below ⟨ho.wide (by omega) (Nat.le_refl _), Nat.le_refl _⟩ hb2, hs.below hb2, Base.below (bw B1.out hw (by omega)) hb2⟩)
  obtain ⟨q, hq⟩ : ∃ q, q = w2.heap.size := ⟨_, rfl⟩
  have hgq : g < q := by omega
  rw [← hq] at L3
  clear ho hs hw Z1 S1 B1
  generalize hlen : l.length = ln at L3 h20 ⊢
  have HLe := Lib.hid hlen
  clear hlen
  go_wp2_with fail
  rw [← hq]
  clear hq
  generalize w2.alloc (.cells #[.int .i64 n, .slice qa ln qc] 27) = w3 at L3 ⊢
  have L4 := Lib.hid (L3.out.below (step_drew w3))
  clear L3
  have kc : w3.drew.cell? ⟨q, 0, none⟩ = some (.int .i64 n) ∧ w3.drew.cell? ⟨q, 1, none⟩ = some (.slice qa ln qc) := ⟨L4.out.ring.c2.1, L4.out.ring.c2.2.1⟩
  refine wp_region_held_drew (S := fun W => W.cell? ⟨q, 0, none⟩ = some (.int .i64 n) ∧ W.cell? ⟨q, 1, none⟩ = some (.slice qa ln qc)) (by kernel_rfl) (by first | exact kc | assumption) (fun hHeld => ?_)
  refine wpAnyH_take (i := 0) (v := ?_) rfl (by kernel_rfl) (by kernel_rfl) (by kernel_rfl) (fun _ _ _ h => h) (Or.inl ⟨by rfl, fun w hSw => by (try dsimp only at hSw); go_simp; (try with_reducible rfl)⟩) (by assumption) ?_
  try simp only [Act.put, List.setIfInBounds_toArray, List.set_cons_zero, List.set_cons_succ, List.getElem_toArray, List.getElem_cons_zero, List.getElem_cons_succ]
  refine wpAnyH_take (i := 1) (v := ?_) rfl (by kernel_rfl) (by kernel_rfl) (by kernel_rfl) (fun _ _ _ h => h) (Or.inl ⟨by rfl, fun w hSw => by (try dsimp only at hSw); go_simp; (try with_reducible rfl)⟩) (by assumption) ?_
  try simp only [Act.put, List.setIfInBounds_toArray, List.set_cons_zero, List.set_cons_succ, List.getElem_toArray, List.getElem_cons_zero, List.getElem_cons_succ]
  refine wpAnyH_ready (rs := [2]) (by kernel_rfl) (by simp) ?_
  refine AllReadyH.cons rfl (fun K hK => ?_) AllReadyH.nil
  go_simp
  go_at_call 43
  refine (key_draw _ g g L4.out.src).mono ?_
  rintro e w5 ⟨key, hk, rfl, hs, hw⟩
  have L5 := Lib.hid (L4.out.drawn hz hgq hs hw)
  clear hs hw L4 kc
  have kc : w5.cell? ⟨q, 0, none⟩ = some (.int .i64 n) ∧ w5.cell? ⟨q, 1, none⟩ = some (.slice qa ln qc) := ⟨L5.out.ring.c2.1, L5.out.ring.c2.2.1⟩
  obtain ⟨y0, y1, yf0, yf1⟩ := L5.out.zero.c2
  go_wp2_with fail
  refine hK.out _ _ (by first | exact kc | assumption) (fun hHeld => ?_)
  clear hK K
  try simp only [Act.put, List.setIfInBounds_toArray, List.set_cons_zero, List.set_cons_succ, List.getElem_toArray, List.getElem_cons_zero, List.getElem_cons_succ]
  refine wpAnyH_ready (rs := [3]) (by kernel_rfl) (by simp) ?_
  refine AllReadyH.cons rfl (fun K hK => ?_) AllReadyH.nil
  go_simp
  --op
  have R6 := Lib.hid (L5.out.back hz hgq)
  have hwq := ((Within.refl w.heap.size (w.heap.size + 1) w5).setCell (p := ⟨w.heap.size, 0, none⟩) (Nat.le_refl _) (Nat.lt_succ_self _) (.int .i64 n)).setCell (p := ⟨w.heap.size, 1, none⟩) (Nat.le_refl _) (Nat.lt_succ_self _) (.slice qa ln qc)
  have k6 := (L5.out.ring.within hwq (by omega)).c2
  have kc := And.intro k6.1 k6.2.1
  clear hwq k6 L5 y0 y1 yf0 yf1
  refine hK.out _ _ (by first | exact kc | assumption) (fun hHeld => ?_)
  clear hK K
  try simp only [Act.put, List.setIfInBounds_toArray, List.set_cons_zero, List.set_cons_succ, List.getElem_toArray, List.getElem_cons_zero, List.getElem_cons_succ]
  refine wpAnyH_take (i := 4) (v := ?_) rfl (by kernel_rfl) (by kernel_rfl) (by kernel_rfl) (fun _ _ _ h => h) (Or.inl ⟨by rfl, fun w hSw => by (try dsimp only at hSw); go_simp; (try with_reducible rfl)⟩) (by assumption) ?_
  try simp only [Act.put, List.setIfInBounds_toArray, List.set_cons_zero, List.set_cons_succ, List.getElem_toArray, List.getElem_cons_zero, List.getElem_cons_succ]
  refine wpAnyH_done (by kernel_rfl) ?_ _
  obtain ⟨d0, d1, ht, hb⟩ := R6.out
  have HT := Lib.hid ht
  have HB := Lib.hid hb
  clear ht hb kc hHeld R6
  go_wp2
  exact bodyPost_ret (v := .tuple #[.agg #[.int .i64 n, .slice qa ln qc], .string key]) (by simp [results, Tryd.results10, go_sem, d0, d1]) rfl ⟨n, l, qa, qc, key, hn, by rw [HLe.out]; exact h20, hk, by rw [HLe.out], HT.out, HB.out⟩
set_option maxRecDepth 100000 in
set_option maxHeartbeats 2000000 in
theorem drawOwners (w : World) (a : Option Addr) (len cap : Nat) (h : Mk.Code w a len) : Calls Tryd.prog 12 #[.slice a len cap] w (GotRKN w) := by
  have ZA := Lib.hid (Cells.new w #[.int .i64 0, .slice none 0 0] 27)
  have BA := Lib.hid (step_alloc w (.cells #[.int .i64 0, .slice none 0 0] 27))
  have HC := Lib.hid (show Mk.Code (w.alloc (.cells #[.int .i64 0, .slice none 0 0] 27)) a len from ⟨h.1, (h.2.below BA.out).mono BA.out.size⟩)
  have hsz : (w.alloc (.cells #[.int .i64 0, .slice none 0 0] 27)).heap.size = w.heap.size + 1 := by simp
  clear h
  go_enter Tryd.func12, Tryd.ntmps12
  go_wp2_with fail
  generalize w.alloc (.cells #[.int .i64 0, .slice none 0 0] 27) = wa at ZA BA HC hsz ⊢
  refine (source_new wa a len cap HC.out.1 HC.out.2).mono ?_
  rintro e w1 ⟨rfl, hs1, hb1⟩
  obtain ⟨g, hg⟩ : ∃ g, g = wa.heap.size := ⟨_, rfl⟩
  have hz : w.heap.size < g := by omega
  have Z1 := Lib.hid (ZA.out.below hb1)
  have B1 := Lib.hid (Base.below BA.out hb1)
  rw [← hg] at hs1 ⊢
  have S1 := Lib.hid hs1
  have z1 := hs1.lt.2
  clear hs1 hb1 ZA BA HC hsz hg
  go_wp2_with fail
  refine (ring_draw w1 g g (by omega) S1.out).mono ?_
  rintro e w2 ⟨n, l, qa, qc, hn, h20, rfl, ho, hs, hw⟩
  have z2 : w1.heap.size ≤ w2.heap.size := hw.size
  have L3 := Lib.hid (show Lies w (w2.alloc (.cells #[.int .i64 n, .slice qa l.length qc] 27)) g g w2.heap.size n qa l.length qc l from
    have hb2 := step_alloc w2 (.cells #[.int .i64 n, .slice qa l.length qc] 27)
    ⟨Cells.new w2 _ _, (Z1.out.within hw (by omega)).below hb2, OwnI.below ⟨ho.wide (by omega) (Nat.le_refl _), Nat.le_refl _⟩ hb2, hs.below hb2, Base.below (bw B1.out hw (by omega)) hb2⟩)
  obtain ⟨q, hq⟩ : ∃ q, q = w2.heap.size := ⟨_, rfl⟩
  have hgq : g < q := by omega
  rw [← hq] at L3
  clear ho hs hw Z1 S1 B1
  generalize hlen : l.length = ln at L3 h20 ⊢
  have HLe := Lib.hid hlen
  clear hlen
  go_wp2_with fail
  rw [← hq]
  clear hq
  generalize w2.alloc (.cells #[.int .i64 n, .slice qa ln qc] 27) = w3 at L3 ⊢
  refine (key_draw w3 g g L3.out.src).mono ?_
  rintro e w4 ⟨key, hk, rfl, hs, hw⟩
  have L4 := Lib.hid ((L3.out.drawn hz hgq hs hw).below (step_drew w4))
  clear hs hw L3
  have kc : w4.drew.cell? ⟨q, 0, none⟩ = some (.int .i64 n) ∧ w4.drew.cell? ⟨q, 1, none⟩ = some (.slice qa ln qc) := ⟨L4.out.ring.c2.1, L4.out.ring.c2.2.1⟩
  go_wp2_with fail
  refine wp_region_held_drew (S := fun W => W.cell? ⟨q, 0, none⟩ = some (.int .i64 n) ∧ W.cell? ⟨q, 1, none⟩ = some (.slice qa ln qc)) (by kernel_rfl) (by first | exact kc | assumption) (fun hHeld => ?_)
  refine wpAnyH_take (i := 0) (v := ?_) rfl (by kernel_rfl) (by kernel_rfl) (by kernel_rfl) (fun _ _ _ h => h) (Or.inl ⟨by rfl, fun w hSw => by (try dsimp only at hSw); go_simp; (try with_reducible rfl)⟩) (by assumption) ?_
  try simp only [Act.put, List.setIfInBounds_toArray, List.set_cons_zero, List.set_cons_succ, List.getElem_toArray, List.getElem_cons_zero, List.getElem_cons_succ]
  refine wpAnyH_take (i := 1) (v := ?_) rfl (by kernel_rfl) (by kernel_rfl) (by kernel_rfl) (fun _ _ _ h => h) (Or.inl ⟨by rfl, fun w hSw => by (try dsimp only at hSw); go_simp; (try with_reducible rfl)⟩) (by assumption) ?_
  try simp only [Act.put, List.setIfInBounds_toArray, List.set_cons_zero, List.set_cons_succ, List.getElem_toArray, List.getElem_cons_zero, List.getElem_cons_succ]
  refine wpAnyH_take (i := 2) (v := ?_) rfl (by kernel_rfl) (by kernel_rfl) (by kernel_rfl) (fun _ _ _ h => h) (Or.inl ⟨by rfl, fun w hSw => by (try dsimp only at hSw); go_simp; (try with_reducible rfl)⟩) (by assumption) ?_
  try simp only [Act.put, List.setIfInBounds_toArray, List.set_cons_zero, List.set_cons_succ, List.getElem_toArray, List.getElem_cons_zero, List.getElem_cons_succ]
  refine wpAnyH_ready (rs := [3]) (by kernel_rfl) (by simp) ?_
  refine AllReadyH.cons rfl (fun K hK => ?_) AllReadyH.nil
  go_simp
  go_at_call 41
  refine (n_draw _ g g 7 (by omega) (by omega) L4.out.src).mono ?_
  rintro e w5 ⟨k, hk7, rfl, hs, hg⟩
  have L5 := Lib.hid (L4.out.drawn hz hgq hs (within_grown hg))
  clear hs hg L4 kc
  have kc : w5.cell? ⟨q, 0, none⟩ = some (.int .i64 n) ∧ w5.cell? ⟨q, 1, none⟩ = some (.slice qa ln qc) := ⟨L5.out.ring.c2.1, L5.out.ring.c2.2.1⟩
  obtain ⟨y0, y1, yf0, yf1⟩ := L5.out.zero.c2
  go_wp2_with fail
  refine hK.out _ _ (by first | exact kc | assumption) (fun hHeld => ?_)
  clear hK K
  try simp only [Act.put, List.setIfInBounds_toArray, List.set_cons_zero, List.set_cons_succ, List.getElem_toArray, List.getElem_cons_zero, List.getElem_cons_succ]
  refine wpAnyH_ready (rs := [4]) (by kernel_rfl) (by simp) ?_
  refine AllReadyH.cons rfl (fun K hK => ?_) AllReadyH.nil
  go_simp
  --op
  have R6 := Lib.hid (L5.out.back hz hgq)
  have hwq := ((Within.refl w.heap.size (w.heap.size + 1) w5).setCell (p := ⟨w.heap.size, 0, none⟩) (Nat.le_refl _) (Nat.lt_succ_self _) (.int .i64 n)).setCell (p := ⟨w.heap.size, 1, none⟩) (Nat.le_refl _) (Nat.lt_succ_self _) (.slice qa ln qc)
  have k6 := (L5.out.ring.within hwq (by omega)).c2
  have kc := And.intro k6.1 k6.2.1
  clear hwq k6 L5 y0 y1 yf0 yf1
  refine hK.out _ _ (by first | exact kc | assumption) (fun hHeld => ?_)
  clear hK K
  try simp only [Act.put, List.setIfInBounds_toArray, List.set_cons_zero, List.set_cons_succ, List.getElem_toArray, List.getElem_cons_zero, List.getElem_cons_succ]
  refine wpAnyH_take (i := 5) (v := ?_) rfl (by kernel_rfl) (by kernel_rfl) (by kernel_rfl) (fun _ _ _ h => h) (Or.inl ⟨by rfl, fun w hSw => by (try dsimp only at hSw); go_simp; (try with_reducible rfl)⟩) (by assumption) ?_
  try simp only [Act.put, List.setIfInBounds_toArray, List.set_cons_zero, List.set_cons_succ, List.getElem_toArray, List.getElem_cons_zero, List.getElem_cons_succ]
  refine wpAnyH_take (i := 6) (v := ?_) rfl (by kernel_rfl) (by kernel_rfl) (by kernel_rfl) (fun _ _ _ h => h) (Or.inl ⟨by rfl, fun w hSw => by (try dsimp only at hSw); go_simp; (try with_reducible rfl)⟩) (by assumption) ?_
  try simp only [Act.put, List.setIfInBounds_toArray, List.set_cons_zero, List.set_cons_succ, List.getElem_toArray, List.getElem_cons_zero, List.getElem_cons_succ]
  refine wpAnyH_done (by kernel_rfl) ?_ _
  obtain ⟨d0, d1, ht, hb⟩ := R6.out
  have HT := Lib.hid ht
  have HB := Lib.hid hb
  clear ht hb kc hHeld R6
  go_wp2
  exact bodyPost_ret (v := .tuple #[.agg #[.int .i64 n, .slice qa ln qc], .string key, .int .i64 (k : Int)]) (by simp [results, Tryd.results12, go_sem, d0, d1]) rfl ⟨n, l, qa, qc, key, k, hn, by rw [HLe.out]; exact h20, hk, hk7, by rw [HLe.out], HT.out, HB.out⟩
end Go.Proofs.YteibkoaepgdmlaaDoor.Rg
