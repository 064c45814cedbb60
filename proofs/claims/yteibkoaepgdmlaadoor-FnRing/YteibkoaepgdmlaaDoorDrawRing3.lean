/- Draws for the chapter of the ring: what StandIns is asked. What is drawn is not told, only its range. Condition: the code has at most 1048576 bytes. -/
import Derived.Test.YteibkoaepgdmlaaDoorDrawRing2
import Derived.Test.YteibkoaepgdmlaaDoorAmong
import Derived.Test.YteibkoaepgdmlaaDoorOrderV
set_option linter.unusedSimpArgs false
set_option linter.unusedVariables false
namespace Go.Proofs.YteibkoaepgdmlaaDoor.Rg
open Go.RowKit Go.Proofs.YteibkoaepgdmlaaDoor.Mk Go.Proofs.YteibkoaepgdmlaaDoor.Rw Go.Proofs.YteibkoaepgdmlaaDoor.Tk Go.Proofs.YteibkoaepgdmlaaDoor.Dr Go.Proofs.YteibkoaepgdmlaaDoor.Iz

/-- memory from block b on may have turned -/
theorem Lies.far {w W W' : World} {g q b : Nat} {n : Int} {a : Option Addr} {len cap : Nat} {l : List Tok} (h : Lies w W g g q n a len cap l) (hg : w.heap.size < g) (hq : g < q) (hb : q < b) (hB : Below b W W') : Lies w W' g g q n a len cap l :=
  ⟨h.ring.same (hB.block q hb) hB.size, h.zero.same (hB.block _ (by omega)) hB.size, ⟨h.toks.1.same (fun k _ h2 => hB.block k (by omega)), Nat.le_trans h.toks.2 hB.size⟩,
    hasSrc_same h.src fun k _ ho => hB.block k (by omega), h.held.trans (hB.mono (by omega))⟩
/-- what the draw leaves -/
def GotStand (w : World) (e : Ending) (w' : World) : Prop :=
  ∃ (n : Int) (l : List Tok) (a : Option Addr) (cap : Nat) (key : ByteArray) (k : Int) (d : List Int) (da : Option Addr) (dc : Nat), (0 ≤ n ∧ n ≤ 6) ∧ l.length ≤ 20 ∧ key.size ≤ 4 ∧ (1 ≤ k ∧ k ≤ 4) ∧ d.length ≤ 6 ∧
    e = .returned (.tuple #[.agg #[.int .i64 n, .slice a l.length cap], .string key, .int .i64 k, .slice da d.length dc]) ∧ OwnIn w' w.heap.size w'.heap.size a l ∧ ROwnIn 1 zenc w' w.heap.size w'.heap.size da d ∧ Below w.heap.size w w'
set_option maxRecDepth 100000 in
set_option maxHeartbeats 4000000 in
theorem drawStandIns (w : World) (a : Option Addr) (len cap : Nat) (h : Mk.Code w a len) : Calls Tryd.prog 13 #[.slice a len cap] w (GotStand w) := by
  have ZA := Lib.hid (Cells.new w #[.int .i64 0, .slice none 0 0] 27)
  have BA := Lib.hid (step_alloc w (.cells #[.int .i64 0, .slice none 0 0] 27))
  have HC := Lib.hid (show Mk.Code (w.alloc (.cells #[.int .i64 0, .slice none 0 0] 27)) a len from ⟨h.1, (h.2.below BA.out).mono BA.out.size⟩)
  have hsz : (w.alloc (.cells #[.int .i64 0, .slice none 0 0] 27)).heap.size = w.heap.size + 1 := by simp
  clear h
  go_enter Tryd.func13, Tryd.ntmps13
  go_wp2_with fail
  generalize w.alloc (.cells #[.int .i64 0, .slice none 0 0] 27) = wa at ZA BA HC hsz ⊢
  refine (source_new wa a len cap HC.out.1 HC.out.2).mono ?_
  rintro e w1 ⟨rfl, hs1, hb1⟩
  obtain ⟨g, hg⟩ : ∃ g, g = wa.heap.size := ⟨_, rfl⟩
  have hz : w.heap.size < g := by omega
  have Z1 := Lib.hid (ZA.out.below hb1)
  have B1 := Lib.hid (Base.below BA.out hb1)
  rw [← hg] at hs1 ⊢
  have S1 := Lib.hid hs1
  have z1 := hs1.lt.2
  clear hs1 hb1 ZA BA HC hsz hg
  go_wp2_with fail
  refine (ring_draw w1 g g (by omega) S1.out).mono ?_
  rintro e w2 ⟨n, l, qa, qc, hn, h20, rfl, ho, hs, hw⟩
  have z2 : w1.heap.size ≤ w2.heap.size := hw.size
  have L3 := Lib.hid (show Lies w (w2.alloc (.cells #[.int .i64 n, .slice qa l.length qc] 27)) g g w2.heap.size n qa l.length qc l from
    have hb2 := step_alloc w2 (.cells #[.int .i64 n, .slice qa l.length qc] 27)
    ⟨Cells.new w2 _ _, (Z1.out.within hw (by omega)).below hb2, OwnI.below ⟨ho.wide (by omega) (Nat.le_refl _), Nat.le_refl _⟩ hb2, hs.below hb2, Base.below (bw B1.out hw (by omega)) hb2⟩)
  obtain ⟨q, hq⟩ : ∃ q, q = w2.heap.size := ⟨_, rfl⟩
  have hgq : g < q := by omega
  rw [← hq] at L3
  clear ho hs hw Z1 S1 B1
  generalize hlen : l.length = ln at L3 h20 ⊢
  have HLe := Lib.hid hlen
  clear hlen
  go_wp2_with fail
  rw [← hq]
  clear hq
  generalize w2.alloc (.cells #[.int .i64 n, .slice qa ln qc] 27) = w3 at L3 ⊢
  refine (key_draw w3 g g L3.out.src).mono ?_
  rintro e w4 ⟨key, hk, rfl, hs, hw⟩
  have L4 := Lib.hid (L3.out.drawn hz hgq hs hw)
  have hq4 := L4.out.ring.lt
  clear hs hw L3
  have O0 := Lib.hid (World.ownsRow_made (base := w4.heap.size) (e := 2) (size := 1) w4 #[] 0 (Nat.le_refl _) (by unfold maxLen; omega) rfl)
  have L5 := Lib.hid (L4.out.below (step_alloc w4 (.cells #[] 2)))
  have hz5 : w4.heap.size ≤ (w4.alloc (.cells #[] 2)).heap.size := by simp
  clear L4
  go_wp2
  obtain ⟨bz, hbz⟩ : ∃ bz, bz = w4.heap.size := ⟨_, rfl⟩
  have hqb : q < bz := by omega
  rw [← hbz] at O0 hz5 ⊢
  generalize w4.alloc (.cells #[] 2) = w5 at O0 L5 hz5 ⊢
  clear hq4 hbz
  go_loopw [9, 10] (fun z i wr => ∃ (k : Nat) (d : List Int), k ≤ 5 ∧ i = .int .i64 ((k : Int) + 1) ∧ d.length ≤ k ∧ wr.ownsRow bz 2 1 z d.length (flatE 1 zenc d) ∧ Lies w wr g g q n qa ln qc l ∧ bz ≤ wr.heap.size) (fun _ i _ => 6 - (intOf i).toNat)
  case atStart => exact ⟨0, [], by omega, rfl, by simp, O0.out, L5.out, hz5⟩
  case round =>
    obtain ⟨k, d, hk5, rfl, hd, ho, hL, hbw⟩ := hrel
    have HO := Lib.hid ho
    have HL := Lib.hid hL
    clear ho hL O0 L5
    by_cases hlt : k < 5
    · have i1 : (k : Int) + 1 ≤ 5 := by omega
      go_wp2_with fail
      refine (one_draw wr g g 3 (by omega) (by omega) HL.out.src).mono ?_
      rintro e w6 ⟨r, rfl, hs, hg⟩
      have HO6 := Lib.hid (HO.out.kept hg (.inr (fun e => by have := (HO.out.lt g e).1; omega)))
      have HL6 := Lib.hid (HL.out.drawn hz hgq hs (within_grown hg))
      have hb6 : bz ≤ w6.heap.size := Nat.le_trans hbw hg.size
      clear hs hg HO HL
      cases r
      · go_wp2
        go_roundw
        case rel => exact ⟨k + 1, d, by omega, by go_num, by omega, HO6.out, HL6.out, hb6⟩
        case measure => go_light; simp [intOf]; omega
      · go_wp2_with (at_builtin; refine wpList_append_int w6 rfl _ _ rfl bz _ d ((k : Int) + 1) (by rfl) w6.heap.size rfl (by rfl) HO6.out (by omega) hb6 ?_; intro v' w7 ho7 hb7)
        have HO7 := Lib.hid ho7
        have HL7 := Lib.hid (HL6.out.far hz hgq hqb hb7)
        have hz7 : w6.heap.size ≤ w7.heap.size := hb7.size
        clear ho7 hb7 HO6 HL6
        go_wp2
        go_roundw
        case rel => exact ⟨k + 1, d ++ [(k : Int) + 1], by omega, by go_num, by rw [List.length_append, List.length_singleton]; omega, HO7.out, HL7.out, by omega⟩
        case measure => go_light; simp [intOf]; omega
    · obtain rfl : k = 5 := by omega
      go_wp2_with fail
      refine (one_draw wr g g 15 (by omega) (by omega) HL.out.src).mono ?_
      rintro e w6 ⟨r, rfl, hs, hg⟩
      have HO6 := Lib.hid (HO.out.kept hg (.inr (fun e => by have := (HO.out.lt g e).1; omega)))
      have HL6 := Lib.hid (HL.out.drawn hz hgq hs (within_grown hg))
      have hb6 : bz ≤ w6.heap.size := Nat.le_trans hbw hg.size
      clear hs hg HO HL
      cases r
      · obtain ⟨da, dc, rfl, hh, ho2⟩ := own_headZ HO6.out
        have HDl := Lib.hid (show (d).length ≤ 6 from by omega)
        have L8 := Lib.hid (HL6.out.below (step_drew w6))
        have D8 := Lib.hid (ROwnI.below (show ROwnI 1 zenc w6 bz w6.heap.size da (d) from ⟨ho2, Nat.le_refl _⟩) (step_drew w6))
        clear ho2 hh HO6 HL6
        have kc : w6.drew.cell? ⟨q, 0, none⟩ = some (.int .i64 n) ∧ w6.drew.cell? ⟨q, 1, none⟩ = some (.slice qa ln qc) := ⟨L8.out.ring.c2.1, L8.out.ring.c2.2.1⟩
        generalize hdd : (d) = dd at D8 HDl ⊢
        clear hdd
        go_wp2_with fail
        refine wp_region_held_drew (S := fun W => W.cell? ⟨q, 0, none⟩ = some (.int .i64 n) ∧ W.cell? ⟨q, 1, none⟩ = some (.slice qa ln qc)) (by kernel_rfl) (by first | exact kc | assumption) (fun hHeld => ?_)
        refine wpAnyH_take (i := 0) (v := ?_) rfl (by kernel_rfl) (by kernel_rfl) (by kernel_rfl) (fun _ _ _ h => h) (Or.inl ⟨by rfl, fun w hSw => by (try dsimp only at hSw); go_simp; (try with_reducible rfl)⟩) (by assumption) ?_
        try simp only [Act.put, List.setIfInBounds_toArray, List.set_cons_zero, List.set_cons_succ, List.getElem_toArray, List.getElem_cons_zero, List.getElem_cons_succ]
        refine wpAnyH_take (i := 1) (v := ?_) rfl (by kernel_rfl) (by kernel_rfl) (by kernel_rfl) (fun _ _ _ h => h) (Or.inl ⟨by rfl, fun w hSw => by (try dsimp only at hSw); go_simp; (try with_reducible rfl)⟩) (by assumption) ?_
        try simp only [Act.put, List.setIfInBounds_toArray, List.set_cons_zero, List.set_cons_succ, List.getElem_toArray, List.getElem_cons_zero, List.getElem_cons_succ]
        refine wpAnyH_take (i := 2) (v := ?_) rfl (by kernel_rfl) (by kernel_rfl) (by kernel_rfl) (fun _ _ _ h => h) (Or.inl ⟨by rfl, fun w hSw => by (try dsimp only at hSw); go_simp; (try with_reducible rfl)⟩) (by assumption) ?_
        try simp only [Act.put, List.setIfInBounds_toArray, List.set_cons_zero, List.set_cons_succ, List.getElem_toArray, List.getElem_cons_zero, List.getElem_cons_succ]
        refine wpAnyH_take (i := 5) (v := ?_) rfl (by kernel_rfl) (by kernel_rfl) (by kernel_rfl) (fun _ _ _ h => h) (Or.inl ⟨by rfl, fun w hSw => by (try dsimp only at hSw); go_simp; (try with_reducible rfl)⟩) (by assumption) ?_
        try simp only [Act.put, List.setIfInBounds_toArray, List.set_cons_zero, List.set_cons_succ, List.getElem_toArray, List.getElem_cons_zero, List.getElem_cons_succ]
        refine wpAnyH_ready (rs := [3]) (by kernel_rfl) (by simp) ?_
        refine AllReadyH.cons rfl (fun K hK => ?_) AllReadyH.nil
        go_simp
        go_at_call 41
        refine (n_draw _ g g 4 (by omega) (by omega) L8.out.src).mono ?_
        rintro e w9 ⟨x, hx, rfl, hs, hg⟩
        have L9 := Lib.hid (L8.out.drawn hz hgq hs (within_grown hg))
        have D9 := Lib.hid (D8.out.within (within_grown hg) (by omega))
        obtain ⟨m, hm1, e9, wm⟩ : ∃ m : Nat, (1 ≤ m ∧ m ≤ 4) ∧ (1 : Int) + (x : Int) = (m : Int) ∧ IntKind.i64.wrap (m : Int) = (m : Int) := ⟨1 + x, by omega, by omega, by rw [IntKind.wrap_i64]; omega⟩
        clear hs hg L8 D8 kc
        have kc : w9.cell? ⟨q, 0, none⟩ = some (.int .i64 n) ∧ w9.cell? ⟨q, 1, none⟩ = some (.slice qa ln qc) := ⟨L9.out.ring.c2.1, L9.out.ring.c2.2.1⟩
        obtain ⟨y0, y1, yf0, yf1⟩ := L9.out.zero.c2
        go_wp2_with fail
        refine hK.out _ _ (by first | exact kc | assumption) (fun hHeld => ?_)
        clear hK K
        try simp only [Act.put, List.setIfInBounds_toArray, List.set_cons_zero, List.set_cons_succ, List.getElem_toArray, List.getElem_cons_zero, List.getElem_cons_succ]
        refine wpAnyH_take (i := 4) (v := ?_) rfl (by kernel_rfl) (by kernel_rfl) (by kernel_rfl) (fun _ _ _ h => h) (Or.inl ⟨by rfl, fun w hSw => by (try dsimp only at hSw); go_simp; (try with_reducible rfl)⟩) (by assumption) ?_
        try simp only [Act.put, List.setIfInBounds_toArray, List.set_cons_zero, List.set_cons_succ, List.getElem_toArray, List.getElem_cons_zero, List.getElem_cons_succ]
        refine wpAnyH_ready (rs := [6]) (by kernel_rfl) (by simp) ?_
        refine AllReadyH.cons rfl (fun K hK => ?_) AllReadyH.nil
        go_simp
        --op
        have R6 := Lib.hid (L9.out.back hz hgq)
        have hwq := ((Within.refl w.heap.size (w.heap.size + 1) w9).setCell (p := ⟨w.heap.size, 0, none⟩) (Nat.le_refl _) (Nat.lt_succ_self _) (.int .i64 n)).setCell (p := ⟨w.heap.size, 1, none⟩) (Nat.le_refl _) (Nat.lt_succ_self _) (.slice qa ln qc)
        have k6 := (L9.out.ring.within hwq (by omega)).c2
        have D6 := Lib.hid (D9.out.within hwq (by omega))
        have kc := And.intro k6.1 k6.2.1
        clear hwq k6 L9 D9 y0 y1 yf0 yf1
        refine hK.out _ _ (by first | exact kc | assumption) (fun hHeld => ?_)
        clear hK K
        try simp only [Act.put, List.setIfInBounds_toArray, List.set_cons_zero, List.set_cons_succ, List.getElem_toArray, List.getElem_cons_zero, List.getElem_cons_succ]
        refine wpAnyH_take (i := 7) (v := ?_) rfl (by kernel_rfl) (by kernel_rfl) (by kernel_rfl) (fun _ _ _ h => h) (Or.inl ⟨by rfl, fun w hSw => by (try dsimp only at hSw); go_simp; (try with_reducible rfl)⟩) (by assumption) ?_
        try simp only [Act.put, List.setIfInBounds_toArray, List.set_cons_zero, List.set_cons_succ, List.getElem_toArray, List.getElem_cons_zero, List.getElem_cons_succ]
        refine wpAnyH_take (i := 8) (v := ?_) rfl (by kernel_rfl) (by kernel_rfl) (by kernel_rfl) (fun _ _ _ h => h) (Or.inl ⟨by rfl, fun w hSw => by (try dsimp only at hSw); go_simp; (try with_reducible rfl)⟩) (by assumption) ?_
        try simp only [Act.put, List.setIfInBounds_toArray, List.set_cons_zero, List.set_cons_succ, List.getElem_toArray, List.getElem_cons_zero, List.getElem_cons_succ]
        refine wpAnyH_take (i := 9) (v := ?_) rfl (by kernel_rfl) (by kernel_rfl) (by kernel_rfl) (fun _ _ _ h => h) (Or.inl ⟨by rfl, fun w hSw => by (try dsimp only at hSw); go_simp; (try with_reducible rfl)⟩) (by assumption) ?_
        try simp only [Act.put, List.setIfInBounds_toArray, List.set_cons_zero, List.set_cons_succ, List.getElem_toArray, List.getElem_cons_zero, List.getElem_cons_succ]
        refine wpAnyH_done (by kernel_rfl) ?_ _
        obtain ⟨d0, d1, ht, hb⟩ := R6.out
        have HT := Lib.hid ht
        have HB := Lib.hid hb
        clear ht hb kc hHeld R6
        go_wp2
        exact bodyPost_ret (v := .tuple #[.agg #[.int .i64 n, .slice qa ln qc], .string key, .int .i64 (m : Int), .slice da dd.length dc]) (by simp [results, Tryd.results13, go_sem, d0, d1, wm]) rfl ⟨n, l, qa, qc, key, (m : Int), dd, da, dc, hn, by rw [HLe.out]; exact h20, hk, by omega, HDl.out, by rw [HLe.out], HT.out, D6.out.1.wide (by omega) D6.out.2, HB.out⟩
      · go_wp2_with fail
        refine (n_draw w6 g g 8 (by omega) (by omega) HL6.out.src).mono ?_
        rintro e w7 ⟨y, hy, rfl, hs, hg⟩
        have HO7 := Lib.hid (HO6.out.kept hg (.inr (fun e => by have := (HO6.out.lt g e).1; omega)))
        have HL7 := Lib.hid (HL6.out.drawn hz hgq hs (within_grown hg))
        have hb7 : bz ≤ w7.heap.size := Nat.le_trans hb6 hg.size
        clear hs hg HO6 HL6
        go_wp2_with (at_builtin; refine wpList_append_int w7 rfl _ _ rfl bz _ d (y : Int) (by rfl) w7.heap.size rfl (by rfl) HO7.out (by omega) hb7 ?_; intro v' w8 ho8 hb8)
        have HO8 := Lib.hid ho8
        have HL8 := Lib.hid (HL7.out.far hz hgq hqb hb8)
        have hz8 : w7.heap.size ≤ w8.heap.size := hb8.size
        clear ho8 hb8 HO7 HL7
        obtain ⟨da, dc, rfl, hh, ho2⟩ := own_headZ HO8.out
        have HDl := Lib.hid (show (d ++ [(y : Int)]).length ≤ 6 from by rw [List.length_append, List.length_singleton]; omega)
        have L8 := Lib.hid (HL8.out.below (step_drew w8))
        have D8 := Lib.hid (ROwnI.below (show ROwnI 1 zenc w8 bz w8.heap.size da (d ++ [(y : Int)]) from ⟨ho2, Nat.le_refl _⟩) (step_drew w8))
        clear ho2 hh HO8 HL8
        have kc : w8.drew.cell? ⟨q, 0, none⟩ = some (.int .i64 n) ∧ w8.drew.cell? ⟨q, 1, none⟩ = some (.slice qa ln qc) := ⟨L8.out.ring.c2.1, L8.out.ring.c2.2.1⟩
        generalize hdd : (d ++ [(y : Int)]) = dd at D8 HDl ⊢
        clear hdd
        go_wp2_with fail
        refine wp_region_held_drew (S := fun W => W.cell? ⟨q, 0, none⟩ = some (.int .i64 n) ∧ W.cell? ⟨q, 1, none⟩ = some (.slice qa ln qc)) (by kernel_rfl) (by first | exact kc | assumption) (fun hHeld => ?_)
        refine wpAnyH_take (i := 0) (v := ?_) rfl (by kernel_rfl) (by kernel_rfl) (by kernel_rfl) (fun _ _ _ h => h) (Or.inl ⟨by rfl, fun w hSw => by (try dsimp only at hSw); go_simp; (try with_reducible rfl)⟩) (by assumption) ?_
        try simp only [Act.put, List.setIfInBounds_toArray, List.set_cons_zero, List.set_cons_succ, List.getElem_toArray, List.getElem_cons_zero, List.getElem_cons_succ]
        refine wpAnyH_take (i := 1) (v := ?_) rfl (by kernel_rfl) (by kernel_rfl) (by kernel_rfl) (fun _ _ _ h => h) (Or.inl ⟨by rfl, fun w hSw => by (try dsimp only at hSw); go_simp; (try with_reducible rfl)⟩) (by assumption) ?_
        try simp only [Act.put, List.setIfInBounds_toArray, List.set_cons_zero, List.set_cons_succ, List.getElem_toArray, List.getElem_cons_zero, List.getElem_cons_succ]
        refine wpAnyH_take (i := 2) (v := ?_) rfl (by kernel_rfl) (by kernel_rfl) (by kernel_rfl) (fun _ _ _ h => h) (Or.inl ⟨by rfl, fun w hSw => by (try dsimp only at hSw); go_simp; (try with_reducible rfl)⟩) (by assumption) ?_
        try simp only [Act.put, List.setIfInBounds_toArray, List.set_cons_zero, List.set_cons_succ, List.getElem_toArray, List.getElem_cons_zero, List.getElem_cons_succ]
        refine wpAnyH_take (i := 5) (v := ?_) rfl (by kernel_rfl) (by kernel_rfl) (by kernel_rfl) (fun _ _ _ h => h) (Or.inl ⟨by rfl, fun w hSw => by (try dsimp only at hSw); go_simp; (try with_reducible rfl)⟩) (by assumption) ?_
        try simp only [Act.put, List.setIfInBounds_toArray, List.set_cons_zero, List.set_cons_succ, List.getElem_toArray, List.getElem_cons_zero, List.getElem_cons_succ]
        refine wpAnyH_ready (rs := [3]) (by kernel_rfl) (by simp) ?_
        refine AllReadyH.cons rfl (fun K hK => ?_) AllReadyH.nil
        go_simp
        go_at_call 41
        refine (n_draw _ g g 4 (by omega) (by omega) L8.out.src).mono ?_
        rintro e w9 ⟨x, hx, rfl, hs, hg⟩
        have L9 := Lib.hid (L8.out.drawn hz hgq hs (within_grown hg))
        have D9 := Lib.hid (D8.out.within (within_grown hg) (by omega))
        obtain ⟨m, hm1, e9, wm⟩ : ∃ m : Nat, (1 ≤ m ∧ m ≤ 4) ∧ (1 : Int) + (x : Int) = (m : Int) ∧ IntKind.i64.wrap (m : Int) = (m : Int) := ⟨1 + x, by omega, by omega, by rw [IntKind.wrap_i64]; omega⟩
        clear hs hg L8 D8 kc
        have kc : w9.cell? ⟨q, 0, none⟩ = some (.int .i64 n) ∧ w9.cell? ⟨q, 1, none⟩ = some (.slice qa ln qc) := ⟨L9.out.ring.c2.1, L9.out.ring.c2.2.1⟩
        obtain ⟨y0, y1, yf0, yf1⟩ := L9.out.zero.c2
        go_wp2_with fail
        refine hK.out _ _ (by first | exact kc | assumption) (fun hHeld => ?_)
        clear hK K
        try simp only [Act.put, List.setIfInBounds_toArray, List.set_cons_zero, List.set_cons_succ, List.getElem_toArray, List.getElem_cons_zero, List.getElem_cons_succ]
        refine wpAnyH_take (i := 4) (v := ?_) rfl (by kernel_rfl) (by kernel_rfl) (by kernel_rfl) (fun _ _ _ h => h) (Or.inl ⟨by rfl, fun w hSw => by (try dsimp only at hSw); go_simp; (try with_reducible rfl)⟩) (by assumption) ?_
        try simp only [Act.put, List.setIfInBounds_toArray, List.set_cons_zero, List.set_cons_succ, List.getElem_toArray, List.getElem_cons_zero, List.getElem_cons_succ]
        refine wpAnyH_ready (rs := [6]) (by kernel_rfl) (by simp) ?_
        refine AllReadyH.cons rfl (fun K hK => ?_) AllReadyH.nil
        go_simp
        --op
        have R6 := Lib.hid (L9.out.back hz hgq)
        have hwq := ((Within.refl w.heap.size (w.heap.size + 1) w9).setCell (p := ⟨w.heap.size, 0, none⟩) (Nat.le_refl _) (Nat.lt_succ_self _) (.int .i64 n)).setCell (p := ⟨w.heap.size, 1, none⟩) (Nat.le_refl _) (Nat.lt_succ_self _) (.slice qa ln qc)
        have k6 := (L9.out.ring.within hwq (by omega)).c2
        have D6 := Lib.hid (D9.out.within hwq (by omega))
        have kc := And.intro k6.1 k6.2.1
        clear hwq k6 L9 D9 y0 y1 yf0 yf1
        refine hK.out _ _ (by first | exact kc | assumption) (fun hHeld => ?_)
        clear hK K
        try simp only [Act.put, List.setIfInBounds_toArray, List.set_cons_zero, List.set_cons_succ, List.getElem_toArray, List.getElem_cons_zero, List.getElem_cons_succ]
        refine wpAnyH_take (i := 7) (v := ?_) rfl (by kernel_rfl) (by kernel_rfl) (by kernel_rfl) (fun _ _ _ h => h) (Or.inl ⟨by rfl, fun w hSw => by (try dsimp only at hSw); go_simp; (try with_reducible rfl)⟩) (by assumption) ?_
        try simp only [Act.put, List.setIfInBounds_toArray, List.set_cons_zero, List.set_cons_succ, List.getElem_toArray, List.getElem_cons_zero, List.getElem_cons_succ]
        refine wpAnyH_take (i := 8) (v := ?_) rfl (by kernel_rfl) (by kernel_rfl) (by kernel_rfl) (fun _ _ _ h => h) (Or.inl ⟨by rfl, fun w hSw => by (try dsimp only at hSw); go_simp; (try with_reducible rfl)⟩) (by assumption) ?_
        try simp only [Act.put, List.setIfInBounds_toArray, List.set_cons_zero, List.set_cons_succ, List.getElem_toArray, List.getElem_cons_zero, List.getElem_cons_succ]
        refine wpAnyH_take (i := 9) (v := ?_) rfl (by kernel_rfl) (by kernel_rfl) (by kernel_rfl) (fun _ _ _ h => h) (Or.inl ⟨by rfl, fun w hSw => by (try dsimp only at hSw); go_simp; (try with_reducible rfl)⟩) (by assumption) ?_
        try simp only [Act.put, List.setIfInBounds_toArray, List.set_cons_zero, List.set_cons_succ, List.getElem_toArray, List.getElem_cons_zero, List.getElem_cons_succ]
        refine wpAnyH_done (by kernel_rfl) ?_ _
        obtain ⟨d0, d1, ht, hb⟩ := R6.out
        have HT := Lib.hid ht
        have HB := Lib.hid hb
        clear ht hb kc hHeld R6
        go_wp2
        exact bodyPost_ret (v := .tuple #[.agg #[.int .i64 n, .slice qa ln qc], .string key, .int .i64 (m : Int), .slice da dd.length dc]) (by simp [results, Tryd.results13, go_sem, d0, d1, wm]) rfl ⟨n, l, qa, qc, key, (m : Int), dd, da, dc, hn, by rw [HLe.out]; exact h20, hk, by omega, HDl.out, by rw [HLe.out], HT.out, D6.out.1.wide (by omega) D6.out.2, HB.out⟩
end Go.Proofs.YteibkoaepgdmlaaDoor.Rg
