/- Contracts of spec.l04New and spec.RingNew. No condition. -/
import Derived.Test.YteibkoaepgdmlaaDoorRingI
import Derived.Deep.RegionHeld3
set_option linter.unusedSimpArgs false
set_option linter.unusedVariables false
namespace Go.Proofs.YteibkoaepgdmlaaDoor.Rg
open Go.RowKit Go.Proofs.YteibkoaepgdmlaaDoor.Mk Go.Proofs.YteibkoaepgdmlaaDoor.Rw Go.Proofs.YteibkoaepgdmlaaDoor.Tk Go.Proofs.YteibkoaepgdmlaaDoor.Fv

/-- a slice's head: nil, or a block and room -/
def THead (a : Option Addr) (n cap : Nat) : Prop := (a = none ∧ n = 0 ∧ cap = 0) ∨ ∃ g, a = some ⟨g, 0, none⟩ ∧ n ≤ cap ∧ cap ≤ maxLen
theorem own_headT {w : World} {B n : Nat} {v : Value} {l : List Tok} (h : w.ownsRow B 71 2 v n (flat l)) : ∃ a cap, v = .slice a l.length cap ∧ THead a l.length cap ∧ OwnIn w B w.heap.size a l := by
  obtain ⟨a, cap, hv, ho⟩ := own_rowT h
  refine ⟨a, cap, hv, ?_, ho⟩
  obtain ⟨hlen, hc⟩ := h
  rw [flat_length] at hlen
  rcases hc with ⟨h1, h0⟩ | ⟨g, cp, cur, h1, hg, hh, hn, hm, hs, ht⟩
  · rw [h1] at hv
    simp at hv
    exact .inl ⟨hv.1.symm, by omega, hv.2.2.symm⟩
  · rw [h1] at hv
    simp at hv
    exact .inr ⟨g, hv.1.symm, by omega, by rw [← hv.2.2]; exact hm⟩
theorem own_capT {w : World} {B : Nat} {v : Value} {x : Tok} (h : w.ownsRow B 71 2 v ([] ++ [x]).length (flat ([] ++ [x]))) : ∃ g cap, v = .slice (some ⟨g, 0, none⟩) 1 cap ∧ 1 ≤ cap := by
  obtain ⟨_, hc⟩ := h
  rcases hc with ⟨_, h0⟩ | ⟨g, cap, cur, rfl, hg, hh, hn, _⟩
  · simp at h0
  · exact ⟨g, cap, rfl, by simpa using hn⟩
theorem flat_one {l : List Tok} : ∀ u ∈ flat l, u.oneCell' = true := by
  intro u hu
  unfold flat at hu
  obtain ⟨x, _, hx⟩ := List.mem_flatMap.1 hu
  simp at hx
  rcases hx with rfl | rfl <;> rfl
theorem row_flatT {w : World} {g off : Nat} {l : List Tok} (h : MarksAt w (some ⟨g, off, none⟩) l) : ∀ j u, (flat l)[j]? = some u → w.cell? ((⟨g, off, none⟩ : Addr).add j) = some u := by
  intro j u hu
  have e : (⟨g, off, none⟩ : Addr).add j = ⟨g, off + j, none⟩ := by unfold Addr.add; split <;> simp_all
  rw [e]
  have hj : j < l.length * 2 := by
    have := (List.getElem?_eq_some_iff.1 hu).1
    rwa [flat_length] at this
  have hi : j / 2 < l.length := by omega
  obtain ⟨g0, g1⟩ := flat_get l (j / 2) hi
  rcases h with rfl | ⟨g2, off2, ha, hc⟩
  · cases hi
  · obtain ⟨rfl, rfl⟩ : g = g2 ∧ off = off2 := by simpa using ha
    obtain ⟨k0, k1⟩ := hc (j / 2) hi
    have hm : j % 2 = 0 ∨ j % 2 = 1 := by omega
    rcases hm with c | c
    · rw [show j / 2 * 2 = j by omega] at g0 k0
      rw [g0] at hu; rw [k0]; exact hu
    · rw [show j / 2 * 2 + 1 = j by omega] at g1
      rw [show off + j / 2 * 2 + 1 = off + j by omega] at k1
      rw [g1] at hu; rw [k1]; exact hu
/-- tokens appended to a row of the call's own -/
theorem wpList_append_toks (w0 : World) {ops : Array Oper} {rest : List Oper} {o : Oper} {a : Act} {Q : Exit → Act → World → Prop} (hg : o.guard = none) (s x : Operand)
    (hop : o.op = .call { callee := .builtin .append, args := #[s, x], argTypes := #[25, 25] }) (B : Nat) (v : Value) (l l2 : List Tok) (hs : a.eval s = v) (g off n cap : Nat) (hn : l2.length = n)
    (hx : a.eval x = .slice (some ⟨g, off, none⟩) n cap) (hown : w0.ownsRow B 71 2 v l.length (flat l)) (hrow : MarksAt w0 (some ⟨g, off, none⟩) l2) (hl : l.length + l2.length ≤ 1000000) (hB : B ≤ w0.heap.size)
    (h : ∀ v' w', w'.ownsRow B 71 2 v' (l ++ l2).length (flat (l ++ l2)) → Below B w0 w' → wpList Tryd.prog ops Q rest (a.put o.dst v') w') :
    wpList Tryd.prog ops Q (o :: rest) a w0 := by
  subst hn
  obtain ⟨i0, hi, hz0, hz1, hz2⟩ := info_parts infoT
  refine wpList_append_own _ hg s x 25 hop B 71 i0 _ 2 16 Tryd.underlying25 hi hz0 hz1 hz2 rfl (by decide) v l.length (flat l) hs hown ⟨g, off, none⟩ l2.length cap (flat l2) hx (by rw [flat_length])
    (row_flatT hrow) flat_one (by unfold maxLen; omega) (by omega) hB (fun v' w' h1 h2 _ => h v' w' ?_ ?_)
  · rw [show flat (l ++ l2) = flat l ++ flat l2 by simp [flat], List.length_append]; exact h1
  · exact (Below.refl B w0).grown h2 hB (fun k hk => (hown.lt k hk).1)
theorem marks_take {w : World} {g off : Nat} {s : List Tok} (k : Nat) (h : MarksAt w (some ⟨g, off, none⟩) s) : MarksAt w (some ⟨g, off, none⟩) (s.take k) := by
  rcases h with rfl | ⟨g2, off2, ha, hc⟩
  · exact .inl (by simp)
  · exact .inr ⟨g2, off2, ha, fun i hi => by
      have hi' : i < s.length := by rw [List.length_take] at hi; omega
      rw [List.getElem_take]; exact hc i hi'⟩
theorem marks_drop {w : World} {g off : Nat} {s : List Tok} (k : Nat) (h : MarksAt w (some ⟨g, off, none⟩) s) : MarksAt w (some ⟨g, off + k * 2, none⟩) (s.drop k) := by
  rcases h with rfl | ⟨g2, off2, ha, hc⟩
  · exact .inl (by simp)
  · obtain ⟨rfl, rfl⟩ : g = g2 ∧ off = off2 := by simpa using ha
    exact .inr ⟨g, off + k * 2, rfl, fun i hi => by
      have hi' : k + i < s.length := by rw [List.length_drop] at hi; omega
      have := hc (k + i) hi'
      rw [List.getElem_drop, show off + k * 2 + i * 2 = off + (k + i) * 2 by omega]; exact this⟩
theorem marks_drop0 {w : World} {g : Nat} {s : List Tok} (k : Nat) (h : MarksAt w (some ⟨g, 0, none⟩) s) : MarksAt w (some ⟨g, k * 2, none⟩) (s.drop k) := by
  have := marks_drop k h
  rwa [Nat.zero_add] at this
theorem size2 (W : World) : (sizeOf (Tryd.prog.elem 25)).run Tryd.prog W = .ok 2 W := by kernel_rfl
theorem dig_cat (n i : Nat) : dig n ++ ⟨#[45]⟩ ++ dig i = tokT n i := by
  apply ByteArray.ext
  rw [ByteArray.data_append, ByteArray.data_append]
  simp [dig, tokT]
theorem tokT_fnvN (n i : Nat) : ((fnvN (tokT n i).data.toList : Nat) : Int) = (tok n i).1 := rfl
/-- the ring under way -/
def RS (w wr : World) (n : Int) (l : List Tok) : Prop := ∃ a cap, Cells wr (w.heap.size + 1) [.int .i64 n, .slice a l.length cap] ∧ Cells wr w.heap.size [.int .i64 0, .slice none 0 0] ∧ THead a l.length cap ∧ OwnIn wr (w.heap.size + 2) wr.heap.size a l ∧ Below w.heap.size w wr
def RGives2 (w : World) (nodes : Int) (l : List Tok) (e : Ending) (w' : World) : Prop :=
  ∃ a cap, e = .returned (.agg #[.int .i64 nodes, .slice a l.length cap]) ∧ OwnIn w' w.heap.size w'.heap.size a l ∧ Below w.heap.size w w'
set_option maxRecDepth 100000 in
set_option maxHeartbeats 8000000 in
theorem spec_l04New (n m : Nat) (w : World) (hn0 : 1 ≤ n) (hn : n ≤ 5) (hm0 : 1 ≤ m) (hm : m ≤ 8) :
    Calls Tryd.prog 57 #[.int .i64 (n : Int), .int .i64 (m : Int)] w (RGives2 w n (ringL n m)) := by
  have Z0 := Lib.hid (Cells.new w #[.int .i64 0, .slice none 0 0] 27)
  have B0 := Lib.hid (step_alloc w (.cells #[.int .i64 0, .slice none 0 0] 27))
  have hsz : (w.alloc (.cells #[.int .i64 0, .slice none 0 0] 27)).heap.size = w.heap.size + 1 := by simp
  go_enter Tryd.func57, Tryd.ntmps57
  go_wp2_with fail
  generalize w.alloc (.cells #[.int .i64 0, .slice none 0 0] 27) = wa at Z0 B0 hsz ⊢
  have R0 := Lib.hid (Cells.new wa #[.int .i64 (n : Int), .slice none 0 0] 27)
  have hb0 := step_alloc wa (.cells #[.int .i64 (n : Int), .slice none 0 0] 27)
  have Z1 := Lib.hid (Z0.out.below hb0)
  have B1 := Lib.hid (B0.out.trans (hb0.mono B0.out.size))
  clear hb0 Z0 B0
  go_wp2
  rw [hsz] at R0
  generalize wa.alloc (.cells #[.int .i64 (n : Int), .slice none 0 0] 27) = wb at R0 Z1 B1 ⊢
  go_loopw [6] (fun i wr => ∃ (u : Nat), u ≤ n ∧ i = .int .i64 ((u : Int) + 1) ∧ RS w wr n (tsort (raw u m))) (fun i _ => n + 1 - (intOf i).toNat)
  case atStart => exact ⟨0, Nat.zero_le _, rfl, none, 0, R0.out, Z1.out, .inl ⟨rfl, rfl, rfl⟩, .inl rfl, B1.out⟩
  case round =>
    obtain ⟨u, hu, rfl, hrs⟩ := hrel
    clear R0 Z1 B1
    have HRS := Lib.hid hrs
    clear hrs
    by_cases hlt : u < n
    rotate_left
    · have hu2 : u = n := by omega
      subst hu2
      obtain ⟨a, cap, rc, rz, th, ow, bw⟩ := HRS.out
      have hrl : tsort (raw u m) = ringL u m := rfl
      rw [hrl] at rc th ow
      have HL := Lib.hid (show (ringL u m).length = (ringL u m).length from rfl)
      clear hrl HRS
      generalize hlen : (ringL u m).length = len at rc th
      have HLe := Lib.hid hlen
      clear hlen
      have RC := Lib.hid rc
      have RZ := Lib.hid rz
      have OW := Lib.hid ow
      have BW := Lib.hid bw
      obtain ⟨r0, r1, _, _⟩ := rc.c2
      obtain ⟨z0, z1, zf0, zf1⟩ := rz.c2
      clear rc rz ow bw th
      go_wp2
      have hset := (RZ.out.set 0 (by simp) (.int .i64 (u : Int))).set 1 (by simp) (.slice a len cap)
      have hwi := ((Within.refl w.heap.size (w.heap.size + 1) wr).setCell (p := ⟨w.heap.size, 0, none⟩) (Nat.le_refl _) (Nat.lt_succ_self _) (.int .i64 (u : Int))).setCell (p := ⟨w.heap.size, 1, none⟩) (Nat.le_refl _) (Nat.lt_succ_self _) (.slice a len cap)
      obtain ⟨d0, d1, _, _⟩ := hset.c2
      exact bodyPost_ret (v := .agg #[.int .i64 (u : Int), .slice a len cap]) (by simp [results, Tryd.results57, go_sem, d0, d1]) rfl ⟨a, cap, by rw [HLe.out], (OW.out.same (hwi.same (Nat.le_refl _) (by omega))).wide (by omega) hwi.size, BW.out.trans (hwi.below (Nat.le_refl _) BW.out.size)⟩
    have hle : (u : Int) + 1 ≤ (n : Int) := by omega
    go_wp2
    go_loopw [7] (fun i wr => ∃ (j : Nat), j ≤ m ∧ i = .int .i64 ((j : Int) + 1) ∧ RS w wr n (tsort (raw u m ++ row (u + 1) j))) (fun i _ => m + 1 - (intOf i).toNat)
    case atStart => exact ⟨0, Nat.zero_le _, rfl, by simpa [row] using HRS.out⟩
    case round =>
      obtain ⟨j, hj, rfl, hrs⟩ := hrel
      clear HRS
      have HRS := Lib.hid hrs
      clear hrs
      by_cases hlt2 : j < m
      rotate_left
      · have hj2 : j = m := by omega
        subst hj2
        go_wp2
        go_roundw
        case rel => exact ⟨u + 1, by omega, by go_num, by rw [raw_snoc]; exact HRS.out⟩
        case measure => go_light; simp [intOf]; omega
      have hle2 : (j : Int) + 1 ≤ (m : Int) := by omega
      have hd1 : ∀ W, Calls Tryd.prog 79 #[.int .i64 ((u : Int) + 1)] W fun e w' => e = .returned (.string (dig (u + 1))) ∧ Below W.heap.size W w' := fun W => spec_dec (u + 1) (by omega) (by omega) W
      have hd2 : ∀ W, Calls Tryd.prog 79 #[.int .i64 ((j : Int) + 1)] W fun e w' => e = .returned (.string (dig (j + 1))) ∧ Below W.heap.size W w' := fun W => spec_dec (j + 1) (by omega) (by omega) W
      have hfn : ∀ W, Calls Tryd.prog 62 #[.string (dig (u + 1) ++ ⟨#[45]⟩ ++ dig (j + 1))] W fun e w' => e = .returned (.int .i64 (tok (u + 1) (j + 1)).1) ∧ W = w' := fun W => by
        rw [dig_cat, ← tokT_fnvN]
        exact spec_l04Fnv (tokT (u + 1) (j + 1)) (show 3 ≤ maxLen by unfold maxLen; omega) W
      have HS := Lib.hid (show tins (tsort (raw u m ++ row (u + 1) j)) ((tok (u + 1) (j + 1)).1, (u : Int) + 1) = tsort (raw u m ++ row (u + 1) (j + 1)) by rw [row_snoc, ← List.append_assoc, tsort_snoc]; rfl)
      have HLN : Hid ((tsort (raw u m ++ row (u + 1) j)).length ≤ 1000) := Lib.hid (by
        rw [tsort_length, List.length_append, raw_length, row_length]
        have := Nat.mul_le_mul (show u ≤ 5 by omega) hm
        omega)
      generalize (tok (u + 1) (j + 1)).1 = xh at hfn HS
      have hs1 : (dig (u + 1)).size ≤ 10 := by show (1 : Nat) ≤ 10; omega
      have hs2 : (dig (j + 1)).size ≤ 10 := by show (1 : Nat) ≤ 10; omega
      generalize dig (u + 1) = g1 at hd1 hfn hs1
      generalize dig (j + 1) = g2 at hd2 hfn hs2
      generalize tsort (raw u m ++ row (u + 1) j) = l at HRS HS HLN
      have HD1 := Lib.hid hd1
      have HD2 := Lib.hid hd2
      have HFN := Lib.hid hfn
      clear hd1 hd2 hfn
      obtain ⟨a, cap, rc, rz, th, ow, bw⟩ := HRS.out
      have TH := Lib.hid th
      have RC := Lib.hid rc
      have RZ := Lib.hid rz
      have MT := Lib.hid ow.at_
      have BW := Lib.hid bw
      clear HRS rc rz th ow bw
      go_wp2_with fail
      refine (HD1.out _).mono ?_
      rintro e w1 ⟨rfl, hb⟩
      replace RC := Lib.hid (RC.out.below hb)
      replace RZ := Lib.hid (RZ.out.below hb)
      replace MT := Lib.hid (MT.out.mono hb)
      replace BW := Lib.hid (BW.out.trans (hb.mono BW.out.size))
      clear hb
      go_wp2_with fail
      refine (HD2.out _).mono ?_
      rintro e w2 ⟨rfl, hb⟩
      replace RC := Lib.hid (RC.out.below hb)
      replace RZ := Lib.hid (RZ.out.below hb)
      replace MT := Lib.hid (MT.out.mono hb)
      replace BW := Lib.hid (BW.out.trans (hb.mono BW.out.size))
      clear hb
      go_wp2_with fail
      refine (HFN.out _).mono ?_
      rintro e w' ⟨rfl, rfl⟩
      clear HD1 HD2 HFN
      have XV := Lib.hid (Cells.new w2 #[.int .i64 xh, .int .i64 ((u : Int) + 1)] 71)
      have hb := step_alloc w2 (.cells #[.int .i64 xh, .int .i64 ((u : Int) + 1)] 71)
      replace RC := Lib.hid (RC.out.below hb)
      replace RZ := Lib.hid (RZ.out.below hb)
      replace MT := Lib.hid (MT.out.mono hb)
      replace BW := Lib.hid (BW.out.trans (hb.mono BW.out.size))
      clear hb
      go_wp2
      generalize w2.alloc (.cells #[.int .i64 xh, .int .i64 ((u : Int) + 1)] 71) = wx at RC RZ MT BW XV ⊢
      generalize w2.heap.size = xb at XV ⊢
      obtain ⟨len, hlen⟩ : ∃ len, len = l.length := ⟨_, rfl⟩
      have HLen := Lib.hid hlen
      have hln : len ≤ 1000 := by rw [hlen]; exact HLN.out
      rw [← hlen] at RC TH
      clear hlen
      go_loopw [9] (fun p wy => ∃ (k : Nat), k ≤ len ∧ p = .int .i64 k ∧ (∀ i (h : i < l.length), i < k → tlt l[i] (xh, ((u : Int) + 1)) = true) ∧ Below wx.heap.size wx wy) (fun p _ => len - (intOf p).toNat)
      case atStart => exact ⟨0, Nat.zero_le _, rfl, fun i h h2 => absurd h2 (Nat.not_lt_zero _), Below.refl _ _⟩
      case round =>
        obtain ⟨k, hk, rfl, hlo, hbel⟩ := hrel
        have HLO := Lib.hid hlo
        have HBX := Lib.hid hbel
        have RC2 := Lib.hid (RC.out.below hbel)
        have XV2 := Lib.hid (XV.out.below hbel)
        obtain ⟨r0, r1, _, _⟩ := RC2.out.c2
        obtain ⟨x0, x1, _, _⟩ := XV2.out.c2
        clear hlo hbel
        by_cases hlk : k < len
        rotate_left
        · obtain rfl : k = len := by omega
          have hge : ¬ (k : Int) < (k : Int) := by omega
          have HP := Lib.hid (tpos_eq l (xh, ((u : Int) + 1)) k (by rw [← HLen.out]; exact Nat.le_refl _) HLO.out (fun h => absurd h (by rw [← HLen.out]; exact Nat.lt_irrefl _)))
          go_wp2_with fail
          refine wp_region_held_drew (S := fun w' => w'.cell? ⟨w.heap.size + 1, 1, none⟩ = some (.slice a k cap)) (by kernel_rfl) (by first | exact r1 | assumption) (fun hHeld => ?_)
          refine wpAnyH_take (i := 0) (v := ?_) rfl (by kernel_rfl) (by kernel_rfl) (by kernel_rfl) (fun _ _ _ h => h) (Or.inl ⟨by rfl, fun w hSw => by (try dsimp only at hSw); go_simp; (try with_reducible rfl)⟩) (by assumption) ?_
          try simp only [Act.put, List.setIfInBounds_toArray, List.set_cons_zero, List.set_cons_succ, List.getElem_toArray, List.getElem_cons_zero, List.getElem_cons_succ]
          refine wpAnyH_take (i := 1) (v := ?_) rfl (by kernel_rfl) (by kernel_rfl) (by kernel_rfl) (fun _ _ _ h => h) (Or.inl ⟨by rfl, fun w hSw => by (try dsimp only at hSw); go_simp; (try with_reducible rfl)⟩) (by assumption) ?_
          try simp only [Act.put, List.setIfInBounds_toArray, List.set_cons_zero, List.set_cons_succ, List.getElem_toArray, List.getElem_cons_zero, List.getElem_cons_succ]
          refine wpAnyH_take (i := 2) (v := ?_) rfl (by kernel_rfl) (by kernel_rfl) (by kernel_rfl) (fun _ _ _ h => h) (Or.inl ⟨by rfl, fun w hSw => by (try dsimp only at hSw); go_simp; (try with_reducible rfl)⟩) (by assumption) ?_
          try simp only [Act.put, List.setIfInBounds_toArray, List.set_cons_zero, List.set_cons_succ, List.getElem_toArray, List.getElem_cons_zero, List.getElem_cons_succ]
          refine wpAnyH_take (i := 3) (v := ?_) rfl (by kernel_rfl) (by kernel_rfl) (by kernel_rfl) (fun _ _ _ h => h) (Or.inl ⟨by rfl, fun w hSw => by (try dsimp only at hSw); go_simp; (try with_reducible rfl)⟩) (by assumption) ?_
          try simp only [Act.put, List.setIfInBounds_toArray, List.set_cons_zero, List.set_cons_succ, List.getElem_toArray, List.getElem_cons_zero, List.getElem_cons_succ]
          refine wpAnyH_take (i := 4) (v := ?_) rfl (by kernel_rfl) (by kernel_rfl) (by kernel_rfl) (fun _ _ _ h => h) (Or.inl ⟨by rfl, fun w hSw => by (try dsimp only at hSw); go_simp; (try with_reducible rfl)⟩) (by assumption) ?_
          try simp only [Act.put, List.setIfInBounds_toArray, List.set_cons_zero, List.set_cons_succ, List.getElem_toArray, List.getElem_cons_zero, List.getElem_cons_succ]
          refine wpAnyH_take (i := 5) (v := ?_) rfl (by kernel_rfl) (by kernel_rfl) (by kernel_rfl) (fun _ _ _ h => h) (Or.inl ⟨by rfl, fun w hSw => by (try dsimp only at hSw); go_simp; (try with_reducible rfl)⟩) (by assumption) ?_
          try simp only [Act.put, List.setIfInBounds_toArray, List.set_cons_zero, List.set_cons_succ, List.getElem_toArray, List.getElem_cons_zero, List.getElem_cons_succ]
          refine wpAnyH_take (i := 6) (v := undef) rfl (by kernel_rfl) (by kernel_rfl) (by kernel_rfl) (fun _ _ _ h => h) (Or.inr ⟨by rfl, rfl⟩) (by assumption) ?_
          try simp only [Act.put, List.setIfInBounds_toArray, List.set_cons_zero, List.set_cons_succ, List.getElem_toArray, List.getElem_cons_zero, List.getElem_cons_succ]
          refine wpAnyH_take (i := 7) (v := undef) rfl (by kernel_rfl) (by kernel_rfl) (by kernel_rfl) (fun _ _ _ h => h) (Or.inr ⟨by rfl, rfl⟩) (by assumption) ?_
          try simp only [Act.put, List.setIfInBounds_toArray, List.set_cons_zero, List.set_cons_succ, List.getElem_toArray, List.getElem_cons_zero, List.getElem_cons_succ]
          refine wpAnyH_take (i := 8) (v := undef) rfl (by kernel_rfl) (by kernel_rfl) (by kernel_rfl) (fun _ _ _ h => h) (Or.inr ⟨by rfl, rfl⟩) (by assumption) ?_
          try simp only [Act.put, List.setIfInBounds_toArray, List.set_cons_zero, List.set_cons_succ, List.getElem_toArray, List.getElem_cons_zero, List.getElem_cons_succ]
          refine wpAnyH_take (i := 9) (v := undef) rfl (by kernel_rfl) (by kernel_rfl) (by kernel_rfl) (fun _ _ _ h => h) (Or.inr ⟨by rfl, rfl⟩) (by assumption) ?_
          try simp only [Act.put, List.setIfInBounds_toArray, List.set_cons_zero, List.set_cons_succ, List.getElem_toArray, List.getElem_cons_zero, List.getElem_cons_succ]
          refine wpAnyH_take (i := 10) (v := undef) rfl (by kernel_rfl) (by kernel_rfl) (by kernel_rfl) (fun _ _ _ h => h) (Or.inr ⟨by rfl, rfl⟩) (by assumption) ?_
          try simp only [Act.put, List.setIfInBounds_toArray, List.set_cons_zero, List.set_cons_succ, List.getElem_toArray, List.getElem_cons_zero, List.getElem_cons_succ]
          refine wpAnyH_take (i := 11) (v := undef) rfl (by kernel_rfl) (by kernel_rfl) (by kernel_rfl) (fun _ _ _ h => h) (Or.inr ⟨by rfl, rfl⟩) (by assumption) ?_
          try simp only [Act.put, List.setIfInBounds_toArray, List.set_cons_zero, List.set_cons_succ, List.getElem_toArray, List.getElem_cons_zero, List.getElem_cons_succ]
          refine wpAnyH_take (i := 12) (v := undef) rfl (by kernel_rfl) (by kernel_rfl) (by kernel_rfl) (fun _ _ _ h => h) (Or.inr ⟨by rfl, rfl⟩) (by assumption) ?_
          try simp only [Act.put, List.setIfInBounds_toArray, List.set_cons_zero, List.set_cons_succ, List.getElem_toArray, List.getElem_cons_zero, List.getElem_cons_succ]
          refine wpAnyH_take (i := 13) (v := undef) rfl (by kernel_rfl) (by kernel_rfl) (by kernel_rfl) (fun _ _ _ h => h) (Or.inr ⟨by rfl, rfl⟩) (by assumption) ?_
          try simp only [Act.put, List.setIfInBounds_toArray, List.set_cons_zero, List.set_cons_succ, List.getElem_toArray, List.getElem_cons_zero, List.getElem_cons_succ]
          refine wpAnyH_take (i := 14) (v := undef) rfl (by kernel_rfl) (by kernel_rfl) (by kernel_rfl) (fun _ _ _ h => h) (Or.inr ⟨by rfl, rfl⟩) (by assumption) ?_
          try simp only [Act.put, List.setIfInBounds_toArray, List.set_cons_zero, List.set_cons_succ, List.getElem_toArray, List.getElem_cons_zero, List.getElem_cons_succ]
          refine wpAnyH_take (i := 15) (v := undef) rfl (by kernel_rfl) (by kernel_rfl) (by kernel_rfl) (fun _ _ _ h => h) (Or.inr ⟨by rfl, rfl⟩) (by assumption) ?_
          try simp only [Act.put, List.setIfInBounds_toArray, List.set_cons_zero, List.set_cons_succ, List.getElem_toArray, List.getElem_cons_zero, List.getElem_cons_succ]
          refine wpAnyH_take (i := 16) (v := undef) rfl (by kernel_rfl) (by kernel_rfl) (by kernel_rfl) (fun _ _ _ h => h) (Or.inr ⟨by rfl, rfl⟩) (by assumption) ?_
          try simp only [Act.put, List.setIfInBounds_toArray, List.set_cons_zero, List.set_cons_succ, List.getElem_toArray, List.getElem_cons_zero, List.getElem_cons_succ]
          refine wpAnyH_take (i := 17) (v := undef) rfl (by kernel_rfl) (by kernel_rfl) (by kernel_rfl) (fun _ _ _ h => h) (Or.inr ⟨by rfl, rfl⟩) (by assumption) ?_
          try simp only [Act.put, List.setIfInBounds_toArray, List.set_cons_zero, List.set_cons_succ, List.getElem_toArray, List.getElem_cons_zero, List.getElem_cons_succ]
          refine wpAnyH_take (i := 18) (v := undef) rfl (by kernel_rfl) (by kernel_rfl) (by kernel_rfl) (fun _ _ _ h => h) (Or.inr ⟨by rfl, rfl⟩) (by assumption) ?_
          try simp only [Act.put, List.setIfInBounds_toArray, List.set_cons_zero, List.set_cons_succ, List.getElem_toArray, List.getElem_cons_zero, List.getElem_cons_succ]
          refine wpAnyH_take (i := 19) (v := undef) rfl (by kernel_rfl) (by kernel_rfl) (by kernel_rfl) (fun _ _ _ h => h) (Or.inr ⟨by rfl, rfl⟩) (by assumption) ?_
          try simp only [Act.put, List.setIfInBounds_toArray, List.set_cons_zero, List.set_cons_succ, List.getElem_toArray, List.getElem_cons_zero, List.getElem_cons_succ]
          refine wpAnyH_take (i := 20) (v := undef) rfl (by kernel_rfl) (by kernel_rfl) (by kernel_rfl) (fun _ _ _ h => h) (Or.inr ⟨by rfl, rfl⟩) (by assumption) ?_
          try simp only [Act.put, List.setIfInBounds_toArray, List.set_cons_zero, List.set_cons_succ, List.getElem_toArray, List.getElem_cons_zero, List.getElem_cons_succ]
          refine wpAnyH_take (i := 21) (v := undef) rfl (by kernel_rfl) (by kernel_rfl) (by kernel_rfl) (fun _ _ _ h => h) (Or.inr ⟨by rfl, rfl⟩) (by assumption) ?_
          try simp only [Act.put, List.setIfInBounds_toArray, List.set_cons_zero, List.set_cons_succ, List.getElem_toArray, List.getElem_cons_zero, List.getElem_cons_succ]
          refine wpAnyH_take (i := 22) (v := undef) rfl (by kernel_rfl) (by kernel_rfl) (by kernel_rfl) (fun _ _ _ h => h) (Or.inr ⟨by rfl, rfl⟩) (by assumption) ?_
          try simp only [Act.put, List.setIfInBounds_toArray, List.set_cons_zero, List.set_cons_succ, List.getElem_toArray, List.getElem_cons_zero, List.getElem_cons_succ]
          refine wpAnyH_take (i := 23) (v := undef) rfl (by kernel_rfl) (by kernel_rfl) (by kernel_rfl) (fun _ _ _ h => h) (Or.inr ⟨by rfl, rfl⟩) (by assumption) ?_
          try simp only [Act.put, List.setIfInBounds_toArray, List.set_cons_zero, List.set_cons_succ, List.getElem_toArray, List.getElem_cons_zero, List.getElem_cons_succ]
          refine wpAnyH_take (i := 24) (v := undef) rfl (by kernel_rfl) (by kernel_rfl) (by kernel_rfl) (fun _ _ _ h => h) (Or.inr ⟨by rfl, rfl⟩) (by assumption) ?_
          try simp only [Act.put, List.setIfInBounds_toArray, List.set_cons_zero, List.set_cons_succ, List.getElem_toArray, List.getElem_cons_zero, List.getElem_cons_succ]
          refine wpAnyH_take (i := 25) (v := undef) rfl (by kernel_rfl) (by kernel_rfl) (by kernel_rfl) (fun _ _ _ h => h) (Or.inr ⟨by rfl, rfl⟩) (by assumption) ?_
          try simp only [Act.put, List.setIfInBounds_toArray, List.set_cons_zero, List.set_cons_succ, List.getElem_toArray, List.getElem_cons_zero, List.getElem_cons_succ]
          refine wpAnyH_take (i := 26) (v := undef) rfl (by kernel_rfl) (by kernel_rfl) (by kernel_rfl) (fun _ _ _ h => h) (Or.inr ⟨by rfl, rfl⟩) (by assumption) ?_
          try simp only [Act.put, List.setIfInBounds_toArray, List.set_cons_zero, List.set_cons_succ, List.getElem_toArray, List.getElem_cons_zero, List.getElem_cons_succ]
          refine wpAnyH_take (i := 27) (v := undef) rfl (by kernel_rfl) (by kernel_rfl) (by kernel_rfl) (fun _ _ _ h => h) (Or.inr ⟨by rfl, rfl⟩) (by assumption) ?_
          try simp only [Act.put, List.setIfInBounds_toArray, List.set_cons_zero, List.set_cons_succ, List.getElem_toArray, List.getElem_cons_zero, List.getElem_cons_succ]
          refine wpAnyH_take (i := 28) (v := undef) rfl (by kernel_rfl) (by kernel_rfl) (by kernel_rfl) (fun _ _ _ h => h) (Or.inr ⟨by rfl, rfl⟩) (by assumption) ?_
          try simp only [Act.put, List.setIfInBounds_toArray, List.set_cons_zero, List.set_cons_succ, List.getElem_toArray, List.getElem_cons_zero, List.getElem_cons_succ]
          refine wpAnyH_take (i := 29) (v := undef) rfl (by kernel_rfl) (by kernel_rfl) (by kernel_rfl) (fun _ _ _ h => h) (Or.inr ⟨by rfl, rfl⟩) (by assumption) ?_
          try simp only [Act.put, List.setIfInBounds_toArray, List.set_cons_zero, List.set_cons_succ, List.getElem_toArray, List.getElem_cons_zero, List.getElem_cons_succ]
          refine wpAnyH_take (i := 30) (v := undef) rfl (by kernel_rfl) (by kernel_rfl) (by kernel_rfl) (fun _ _ _ h => h) (Or.inr ⟨by rfl, rfl⟩) (by assumption) ?_
          try simp only [Act.put, List.setIfInBounds_toArray, List.set_cons_zero, List.set_cons_succ, List.getElem_toArray, List.getElem_cons_zero, List.getElem_cons_succ]
          refine wpAnyH_take (i := 31) (v := undef) rfl (by kernel_rfl) (by kernel_rfl) (by kernel_rfl) (fun _ _ _ h => h) (Or.inr ⟨by rfl, rfl⟩) (by assumption) ?_
          try simp only [Act.put, List.setIfInBounds_toArray, List.set_cons_zero, List.set_cons_succ, List.getElem_toArray, List.getElem_cons_zero, List.getElem_cons_succ]
          refine wpAnyH_take (i := 32) (v := undef) rfl (by kernel_rfl) (by kernel_rfl) (by kernel_rfl) (fun _ _ _ h => h) (Or.inr ⟨by rfl, rfl⟩) (by assumption) ?_
          try simp only [Act.put, List.setIfInBounds_toArray, List.set_cons_zero, List.set_cons_succ, List.getElem_toArray, List.getElem_cons_zero, List.getElem_cons_succ]
          refine wpAnyH_take (i := 33) (v := undef) rfl (by kernel_rfl) (by kernel_rfl) (by kernel_rfl) (fun _ _ _ h => h) (Or.inr ⟨by rfl, rfl⟩) (by assumption) ?_
          try simp only [Act.put, List.setIfInBounds_toArray, List.set_cons_zero, List.set_cons_succ, List.getElem_toArray, List.getElem_cons_zero, List.getElem_cons_succ]
          refine wpAnyH_take (i := 34) (v := undef) rfl (by kernel_rfl) (by kernel_rfl) (by kernel_rfl) (fun _ _ _ h => h) (Or.inr ⟨by rfl, rfl⟩) (by assumption) ?_
          try simp only [Act.put, List.setIfInBounds_toArray, List.set_cons_zero, List.set_cons_succ, List.getElem_toArray, List.getElem_cons_zero, List.getElem_cons_succ]
          refine wpAnyH_take (i := 35) (v := undef) rfl (by kernel_rfl) (by kernel_rfl) (by kernel_rfl) (fun _ _ _ h => h) (Or.inr ⟨by rfl, rfl⟩) (by assumption) ?_
          try simp only [Act.put, List.setIfInBounds_toArray, List.set_cons_zero, List.set_cons_succ, List.getElem_toArray, List.getElem_cons_zero, List.getElem_cons_succ]
          refine wpAnyH_take (i := 36) (v := undef) rfl (by kernel_rfl) (by kernel_rfl) (by kernel_rfl) (fun _ _ _ h => h) (Or.inr ⟨by rfl, rfl⟩) (by assumption) ?_
          try simp only [Act.put, List.setIfInBounds_toArray, List.set_cons_zero, List.set_cons_succ, List.getElem_toArray, List.getElem_cons_zero, List.getElem_cons_succ]
          refine wpAnyH_take (i := 37) (v := ?_) rfl (by kernel_rfl) (by kernel_rfl) (by kernel_rfl) (fun _ _ _ h => h) (Or.inl ⟨by rfl, fun w hSw => by (try dsimp only at hSw); go_simp; (try with_reducible rfl)⟩) (by assumption) ?_
          try simp only [Act.put, List.setIfInBounds_toArray, List.set_cons_zero, List.set_cons_succ, List.getElem_toArray, List.getElem_cons_zero, List.getElem_cons_succ]
          refine wpAnyH_done (by kernel_rfl) ?_ _
          replace RC := Lib.hid (RC2.out.below (step_drew _))
          replace XV := Lib.hid (XV2.out.below (step_drew _))
          have hbd := HBX.out.drew
          replace RZ := Lib.hid (RZ.out.below hbd)
          replace MT := Lib.hid (MT.out.mono hbd)
          replace BW := Lib.hid (BW.out.trans (hbd.mono BW.out.size))
          clear RC2 XV2 r0 r1 x0 x1 HBX HLO hbd
          have hz4 := size2
          rcases TH.out with ⟨rfl, rfl, rfl⟩ | ⟨g, rfl, hc1, hc2⟩
          · obtain rfl : l = [] := List.length_eq_zero_iff.1 HLen.out.symm
            clear TH
            generalize World.drew _ = wd at RC XV RZ MT BW ⊢
            have hb5 := step_alloc wd (.cells #[] 71)
            have O0 : Hid ((wd.alloc (.cells #[] 71)).ownsRow wd.heap.size 71 2 (.slice (some ⟨wd.heap.size, 0, none⟩) 0 0) ([] : List Tok).length (flat [])) := Lib.hid (World.ownsRow_made wd _ 0 (Nat.le_refl _) (by unfold maxLen; omega) rfl)
            have HWd := Lib.hid hb5
            have hzd : wd.heap.size ≤ (wd.alloc (.cells #[] 71)).heap.size := hb5.size
            obtain ⟨ra0, ra1, _⟩ := (RC.out.below hb5).c2
            obtain ⟨xa0, xa1, _⟩ := (XV.out.below hb5).c2
            clear hb5
            have tok1 : True := trivial
            have tok2 : True := trivial
            have tok3 : True := trivial
            go_wp2_with (at_builtin; have _t := tok2; refine wpList_append_tok (wd.alloc (.cells #[] 71)) rfl _ _ rfl wd.heap.size _ ([] : List Tok) (xh, ((u : Int) + 1)) (by rfl) (wd.heap.size + 1) (by simp) (by rfl) O0.out (by first | (rw [hkl]; omega) | simp) hzd ?_; intro v2 w5 ho5 hb5; clear tok2; have O2 := Lib.hid ho5; have HW5 := Lib.hid (HWd.out.trans hb5); have hz5 : wd.heap.size ≤ w5.heap.size := HW5.out.size; clear ho5 hb5; obtain ⟨g5, c5, rfl, h5c⟩ := own_capT O2.out; obtain ⟨s0, s1, u0, u1⟩ := (RC.out.below HW5.out).c2; have r5 := ((RC.out.below HW5.out).c2).2.1)
            obtain ⟨qa, qc, he, hh2, ho2⟩ := own_headT (l := [(xh, ((u : Int) + 1))]) O2.out
            obtain ⟨rfl, rfl⟩ : some ⟨g5, 0, none⟩ = qa ∧ c5 = qc := by simpa using he
            have HLL := Lib.hid (show [(xh, ((u : Int) + 1))] = tins ([] : List Tok) (xh, ((u : Int) + 1)) from rfl)
            have HW6 := HW5
            have hq1 : ([(xh, ((u : Int) + 1))] : List Tok).length = 1 := rfl
            go_roundw
            case rel =>
              have hset := (RC.out.below HW6.out).set 1 (by simp) (.slice (some ⟨g5, 0, none⟩) ([(xh, ((u : Int) + 1))] : List Tok).length c5)
              have hwi := one_store w5 (w.heap.size + 1) 1 (.slice (some ⟨g5, 0, none⟩) ([(xh, ((u : Int) + 1))] : List Tok).length c5)
              have hz9 : wd.heap.size ≤ w5.heap.size := HW6.out.size
              have hrl := RC.out.lt
              refine ⟨j + 1, by omega, by go_num, some ⟨g5, 0, none⟩, c5, ?_, ?_, ?_, ?_, ?_⟩
              · rw [← HS.out, ← HLL.out]; exact hset
              · exact (RZ.out.below HW6.out).within hwi (by omega)
              · rw [← HS.out, ← HLL.out]; exact hh2
              · rw [← HS.out, ← HLL.out]
                exact (ho2.same (hwi.same (Nat.le_refl _) (by omega))).wide (by omega) hwi.size
              · exact (BW.out.trans (HW6.out.mono BW.out.size)).trans (hwi.below (by omega) (Nat.le_trans BW.out.size HW6.out.size))
            case measure => go_light; simp [intOf]; omega
          · unfold maxLen at hc2
            clear TH
            generalize World.drew _ = wd at RC XV RZ MT BW ⊢
            by_cases hck : cap = k
            · have hck' : k = cap := hck.symm
              subst hck'
              have hb5 := step_alloc wd (.cells #[] 71)
              have O0 : Hid ((wd.alloc (.cells #[] 71)).ownsRow wd.heap.size 71 2 (.slice (some ⟨wd.heap.size, 0, none⟩) 0 0) ([] : List Tok).length (flat [])) := Lib.hid (World.ownsRow_made wd _ 0 (Nat.le_refl _) (by unfold maxLen; omega) rfl)
              have HWd := Lib.hid hb5
              have hzd : wd.heap.size ≤ (wd.alloc (.cells #[] 71)).heap.size := hb5.size
              obtain ⟨ra0, ra1, _⟩ := (RC.out.below hb5).c2
              obtain ⟨xa0, xa1, _⟩ := (XV.out.below hb5).c2
              clear hb5
              have tok1 : True := trivial
              have tok2 : True := trivial
              have tok3 : True := trivial
              have hkl : (l.take k).length = k := by rw [List.length_take]; have := HLen.out; omega
              have hdl : (l.drop k).length = 0 := by rw [List.length_drop]; have := HLen.out; omega
              have hkc : (k : Int) ≤ (k : Int) := by omega
              have hnil : l.drop k = [] := List.drop_eq_nil_of_le (by have := HLen.out; omega)
              have HLL := Lib.hid (show l.take k ++ [(xh, ((u : Int) + 1))] ++ l.drop k = tins l (xh, ((u : Int) + 1)) by unfold tins; rw [← HP.out]; simp)
              go_wp2_with (first | (at_builtin; have _t := tok1; refine wpList_append_toks _ rfl _ _ rfl wd.heap.size _ [] (l.take k) (by rfl) g 0 k k hkl (by rfl) O0.out (marks_take k (MT.out.mono (step_alloc wd (.cells #[] 71)))) (by have := HLen.out; simp; omega) hzd ?_; intro v1 w4 ho4 hb4; clear tok1; rw [List.nil_append] at ho4; have O1 := Lib.hid ho4; have HW4 := Lib.hid (HWd.out.trans hb4); have hz4 : wd.heap.size ≤ w4.heap.size := HW4.out.size; clear ho4 hb4 O0; obtain ⟨e0, e1, _⟩ := (XV.out.below HW4.out).c2; have r4 := ((RC.out.below HW4.out).c2).2.1) | (at_builtin; have _t := tok2; refine wpList_append_tok w4 rfl _ _ rfl wd.heap.size _ (l.take k) (xh, ((u : Int) + 1)) (by rfl) w4.heap.size (by first | rfl | simp) (by first | rfl | simp) O1.out (by first | (rw [hkl]; omega) | simp) hz4 ?_; intro v2 w5 ho5 hb5; clear tok2; have O2 := Lib.hid ho5; have HW5 := Lib.hid (HW4.out.trans hb5); have hz5 : wd.heap.size ≤ w5.heap.size := HW5.out.size; clear ho5 hb5; have r5 := ((RC.out.below HW5.out).c2).2.1) | (at_builtin; have _t := tok3; refine wpList_append_toks _ rfl _ _ rfl wd.heap.size _ (l.take k ++ [(xh, ((u : Int) + 1))]) (l.drop k) (by rfl) g 0 0 _ hdl (by rfl) O2.out (.inl hnil) (by have := HLen.out; simp; omega) hz5 ?_; intro v3 w6 ho6 hb6; clear tok3; rw [HLL.out] at ho6; generalize tins l (xh, ((u : Int) + 1)) = L6 at ho6 HS; have O3 := Lib.hid ho6; have HW6 := Lib.hid (HW5.out.trans hb6); clear ho6 hb6; obtain ⟨qa, qc, rfl, hh2, ho2⟩ := own_headT O3.out; obtain ⟨s0, s1, u0, u1⟩ := (RC.out.below HW6.out).c2))
              go_roundw
              case rel =>
                have hset := (RC.out.below HW6.out).set 1 (by simp) (.slice (qa) L6.length qc)
                have hwi := one_store w6 (w.heap.size + 1) 1 (.slice (qa) L6.length qc)
                have hz9 : wd.heap.size ≤ w6.heap.size := HW6.out.size
                have hrl := RC.out.lt
                refine ⟨j + 1, by omega, by go_num, qa, qc, ?_, ?_, ?_, ?_, ?_⟩
                · rw [← HS.out]; exact hset
                · exact (RZ.out.below HW6.out).within hwi (by omega)
                · rw [← HS.out]; exact hh2
                · rw [← HS.out]
                  exact (ho2.same (hwi.same (Nat.le_refl _) (by omega))).wide (by omega) hwi.size
                · exact (BW.out.trans (HW6.out.mono BW.out.size)).trans (hwi.below (by omega) (Nat.le_trans BW.out.size HW6.out.size))
              case measure => go_light; simp [intOf]; omega
            · have hck2 := hck
              have hb5 := step_alloc wd (.cells #[] 71)
              have O0 : Hid ((wd.alloc (.cells #[] 71)).ownsRow wd.heap.size 71 2 (.slice (some ⟨wd.heap.size, 0, none⟩) 0 0) ([] : List Tok).length (flat [])) := Lib.hid (World.ownsRow_made wd _ 0 (Nat.le_refl _) (by unfold maxLen; omega) rfl)
              have HWd := Lib.hid hb5
              have hzd : wd.heap.size ≤ (wd.alloc (.cells #[] 71)).heap.size := hb5.size
              obtain ⟨ra0, ra1, _⟩ := (RC.out.below hb5).c2
              obtain ⟨xa0, xa1, _⟩ := (XV.out.below hb5).c2
              clear hb5
              have tok1 : True := trivial
              have tok2 : True := trivial
              have tok3 : True := trivial
              have hkl : (l.take k).length = k := by rw [List.length_take]; have := HLen.out; omega
              have hdl : (l.drop k).length = 0 := by rw [List.length_drop]; have := HLen.out; omega
              have hkc : (k : Int) ≤ (cap : Int) := by omega
              have HLL := Lib.hid (show l.take k ++ [(xh, ((u : Int) + 1))] ++ l.drop k = tins l (xh, ((u : Int) + 1)) by unfold tins; rw [← HP.out]; simp)
              go_wp2_with (first | (at_builtin; have _t := tok1; refine wpList_append_toks _ rfl _ _ rfl wd.heap.size _ [] (l.take k) (by rfl) g 0 k cap hkl (by rfl) O0.out (marks_take k (MT.out.mono (step_alloc wd (.cells #[] 71)))) (by have := HLen.out; simp; omega) hzd ?_; intro v1 w4 ho4 hb4; clear tok1; rw [List.nil_append] at ho4; have O1 := Lib.hid ho4; have HW4 := Lib.hid (HWd.out.trans hb4); have hz4 : wd.heap.size ≤ w4.heap.size := HW4.out.size; clear ho4 hb4 O0; obtain ⟨e0, e1, _⟩ := (XV.out.below HW4.out).c2; have r4 := ((RC.out.below HW4.out).c2).2.1) | (at_builtin; have _t := tok2; refine wpList_append_tok w4 rfl _ _ rfl wd.heap.size _ (l.take k) (xh, ((u : Int) + 1)) (by rfl) w4.heap.size (by first | rfl | simp) (by first | rfl | simp) O1.out (by first | (rw [hkl]; omega) | simp) hz4 ?_; intro v2 w5 ho5 hb5; clear tok2; have O2 := Lib.hid ho5; have HW5 := Lib.hid (HW4.out.trans hb5); have hz5 : wd.heap.size ≤ w5.heap.size := HW5.out.size; clear ho5 hb5; have r5 := ((RC.out.below HW5.out).c2).2.1) | (at_builtin; have _t := tok3; refine wpList_append_toks _ rfl _ _ rfl wd.heap.size _ (l.take k ++ [(xh, ((u : Int) + 1))]) (l.drop k) (by rfl) g (k * 2) 0 (cap - k) hdl (by rfl) O2.out (marks_drop0 k (MT.out.mono HW5.out)) (by have := HLen.out; simp; omega) hz5 ?_; intro v3 w6 ho6 hb6; clear tok3; rw [HLL.out] at ho6; generalize tins l (xh, ((u : Int) + 1)) = L6 at ho6 HS; have O3 := Lib.hid ho6; have HW6 := Lib.hid (HW5.out.trans hb6); clear ho6 hb6; obtain ⟨qa, qc, rfl, hh2, ho2⟩ := own_headT O3.out; obtain ⟨s0, s1, u0, u1⟩ := (RC.out.below HW6.out).c2))
              go_roundw
              case rel =>
                have hset := (RC.out.below HW6.out).set 1 (by simp) (.slice (qa) L6.length qc)
                have hwi := one_store w6 (w.heap.size + 1) 1 (.slice (qa) L6.length qc)
                have hz9 : wd.heap.size ≤ w6.heap.size := HW6.out.size
                have hrl := RC.out.lt
                refine ⟨j + 1, by omega, by go_num, qa, qc, ?_, ?_, ?_, ?_, ?_⟩
                · rw [← HS.out]; exact hset
                · exact (RZ.out.below HW6.out).within hwi (by omega)
                · rw [← HS.out]; exact hh2
                · rw [← HS.out]
                  exact (ho2.same (hwi.same (Nat.le_refl _) (by omega))).wide (by omega) hwi.size
                · exact (BW.out.trans (HW6.out.mono BW.out.size)).trans (hwi.below (by omega) (Nat.le_trans BW.out.size HW6.out.size))
              case measure => go_light; simp [intOf]; omega
        obtain ⟨g, rfl, hc1, hc2⟩ : ∃ g, a = some ⟨g, 0, none⟩ ∧ len ≤ cap ∧ cap ≤ maxLen := by
          rcases TH.out with ⟨_, h0, _⟩ | h
          · omega
          · exact h
        unfold maxLen at hc2
        have hkl2 : k < l.length := by rw [← HLen.out]; exact hlk
        obtain ⟨g', off', hga, hgl, c0, c1⟩ := (MT.out.mono HBX.out).cells hkl2
        obtain ⟨rfl, rfl⟩ : g = g' ∧ 0 = off' := by simpa using hga
        rw [Nat.zero_add] at c0 c1
        obtain ⟨y, hy⟩ : ∃ y, l[k] = y := ⟨_, rfl⟩
        rw [hy] at c0 c1
        have HE := Lib.hid hy
        clear hy hga
        obtain ⟨yh, yn⟩ := y
        dsimp only at c0 c1
        have i0 : (0 : Int) ≤ (k : Int) := by omega
        have i1 : (k : Int) < (len : Int) := by omega
        by_cases htl : tlt (yh, yn) (xh, ((u : Int) + 1)) = true
        · have HR := Lib.hid (show ∀ i (h : i < l.length), i < k + 1 → tlt l[i] (xh, ((u : Int) + 1)) = true from fun i h h1 => by
            by_cases e : i = k
            · subst e; rw [HE.out]; exact htl
            · exact HLO.out i h (by omega))
          rw [tlt_iff] at htl
          dsimp only at htl
          rcases htl with hh | ⟨hh, hn2⟩
          · go_wp2_with fail
            refine wp_region_held_drew (S := fun w' => w'.cell? ⟨w.heap.size + 1, 1, none⟩ = some (.slice (some ⟨g, 0, none⟩) len cap) ∧ w'.cell? ⟨g, k * 2, none⟩ = some (.int .i64 yh) ∧ w'.cell? ⟨g, k * 2 + 1, none⟩ = some (.int .i64 yn) ∧ w'.cell? ⟨xb, 0, none⟩ = some (.int .i64 xh) ∧ w'.cell? ⟨xb, 1, none⟩ = some (.int .i64 ((u : Int) + 1))) (by kernel_rfl) (by first | exact ⟨r1, c0, c1, x0, x1⟩ | assumption) (fun hHeld => ?_)
            refine wpAnyH_take (i := 0) (v := ?_) rfl (by kernel_rfl) (by kernel_rfl) (by kernel_rfl) (fun _ _ _ h => h) (Or.inl ⟨by rfl, fun w hSw => by (try dsimp only at hSw); go_simp; (try with_reducible rfl)⟩) (by assumption) ?_
            try simp only [Act.put, List.setIfInBounds_toArray, List.set_cons_zero, List.set_cons_succ, List.getElem_toArray, List.getElem_cons_zero, List.getElem_cons_succ]
            refine wpAnyH_take (i := 1) (v := ?_) rfl (by kernel_rfl) (by kernel_rfl) (by kernel_rfl) (fun _ _ _ h => h) (Or.inl ⟨by rfl, fun w hSw => by (try dsimp only at hSw); go_simp; (try with_reducible rfl)⟩) (by assumption) ?_
            try simp only [Act.put, List.setIfInBounds_toArray, List.set_cons_zero, List.set_cons_succ, List.getElem_toArray, List.getElem_cons_zero, List.getElem_cons_succ]
            refine wpAnyH_take (i := 2) (v := ?_) rfl (by kernel_rfl) (by kernel_rfl) (by kernel_rfl) (fun _ _ _ h => h) (Or.inl ⟨by rfl, fun w hSw => by (try dsimp only at hSw); go_simp; (try with_reducible rfl)⟩) (by assumption) ?_
            try simp only [Act.put, List.setIfInBounds_toArray, List.set_cons_zero, List.set_cons_succ, List.getElem_toArray, List.getElem_cons_zero, List.getElem_cons_succ]
            refine wpAnyH_take (i := 3) (v := ?_) rfl (by kernel_rfl) (by kernel_rfl) (by kernel_rfl) (fun _ _ _ h => h) (Or.inl ⟨by rfl, fun w hSw => by (try dsimp only at hSw); go_simp; (try with_reducible rfl)⟩) (by assumption) ?_
            try simp only [Act.put, List.setIfInBounds_toArray, List.set_cons_zero, List.set_cons_succ, List.getElem_toArray, List.getElem_cons_zero, List.getElem_cons_succ]
            refine wpAnyH_take (i := 4) (v := ?_) rfl (by kernel_rfl) (by kernel_rfl) (by kernel_rfl) (fun _ _ _ h => h) (Or.inl ⟨by rfl, fun w hSw => by (try dsimp only at hSw); go_simp; (try with_reducible rfl)⟩) (by assumption) ?_
            try simp only [Act.put, List.setIfInBounds_toArray, List.set_cons_zero, List.set_cons_succ, List.getElem_toArray, List.getElem_cons_zero, List.getElem_cons_succ]
            refine wpAnyH_take (i := 5) (v := ?_) rfl (by kernel_rfl) (by kernel_rfl) (by kernel_rfl) (fun _ _ _ h => h) (Or.inl ⟨by rfl, fun w hSw => by (try dsimp only at hSw); go_simp; (try with_reducible rfl)⟩) (by assumption) ?_
            try simp only [Act.put, List.setIfInBounds_toArray, List.set_cons_zero, List.set_cons_succ, List.getElem_toArray, List.getElem_cons_zero, List.getElem_cons_succ]
            refine wpAnyH_take (i := 6) (v := ?_) rfl (by kernel_rfl) (by kernel_rfl) (by kernel_rfl) (fun _ _ _ h => h) (Or.inl ⟨by rfl, fun w hSw => by (try dsimp only at hSw); go_simp; (try with_reducible rfl)⟩) (by assumption) ?_
            try simp only [Act.put, List.setIfInBounds_toArray, List.set_cons_zero, List.set_cons_succ, List.getElem_toArray, List.getElem_cons_zero, List.getElem_cons_succ]
            refine wpAnyH_take (i := 7) (v := ?_) rfl (by kernel_rfl) (by kernel_rfl) (by kernel_rfl) (fun _ _ _ h => h) (Or.inl ⟨by rfl, fun w hSw => by (try dsimp only at hSw); go_simp; (try with_reducible rfl)⟩) (by assumption) ?_
            try simp only [Act.put, List.setIfInBounds_toArray, List.set_cons_zero, List.set_cons_succ, List.getElem_toArray, List.getElem_cons_zero, List.getElem_cons_succ]
            refine wpAnyH_take (i := 8) (v := ?_) rfl (by kernel_rfl) (by kernel_rfl) (by kernel_rfl) (fun _ _ _ h => h) (Or.inl ⟨by rfl, fun w hSw => by (try dsimp only at hSw); go_simp; (try with_reducible rfl)⟩) (by assumption) ?_
            try simp only [Act.put, List.setIfInBounds_toArray, List.set_cons_zero, List.set_cons_succ, List.getElem_toArray, List.getElem_cons_zero, List.getElem_cons_succ]
            refine wpAnyH_take (i := 9) (v := ?_) rfl (by kernel_rfl) (by kernel_rfl) (by kernel_rfl) (fun _ _ _ h => h) (Or.inl ⟨by rfl, fun w hSw => by (try dsimp only at hSw); go_simp; (try with_reducible rfl)⟩) (by assumption) ?_
            try simp only [Act.put, List.setIfInBounds_toArray, List.set_cons_zero, List.set_cons_succ, List.getElem_toArray, List.getElem_cons_zero, List.getElem_cons_succ]
            refine wpAnyH_take (i := 10) (v := ?_) rfl (by kernel_rfl) (by kernel_rfl) (by kernel_rfl) (fun _ _ _ h => h) (Or.inl ⟨by rfl, fun w hSw => by (try dsimp only at hSw); go_simp; (try with_reducible rfl)⟩) (by assumption) ?_
            try simp only [Act.put, List.setIfInBounds_toArray, List.set_cons_zero, List.set_cons_succ, List.getElem_toArray, List.getElem_cons_zero, List.getElem_cons_succ]
            refine wpAnyH_take (i := 11) (v := ?_) rfl (by kernel_rfl) (by kernel_rfl) (by kernel_rfl) (fun _ _ _ h => h) (Or.inl ⟨by rfl, fun w hSw => by (try dsimp only at hSw); go_simp; (try with_reducible rfl)⟩) (by assumption) ?_
            try simp only [Act.put, List.setIfInBounds_toArray, List.set_cons_zero, List.set_cons_succ, List.getElem_toArray, List.getElem_cons_zero, List.getElem_cons_succ]
            refine wpAnyH_take (i := 12) (v := ?_) rfl (by kernel_rfl) (by kernel_rfl) (by kernel_rfl) (fun _ _ _ h => h) (Or.inl ⟨by rfl, fun w hSw => by (try dsimp only at hSw); go_simp; (try with_reducible rfl)⟩) (by assumption) ?_
            try simp only [Act.put, List.setIfInBounds_toArray, List.set_cons_zero, List.set_cons_succ, List.getElem_toArray, List.getElem_cons_zero, List.getElem_cons_succ]
            refine wpAnyH_take (i := 13) (v := ?_) rfl (by kernel_rfl) (by kernel_rfl) (by kernel_rfl) (fun _ _ _ h => h) (Or.inl ⟨by rfl, fun w hSw => by (try dsimp only at hSw); go_simp; (try with_reducible rfl)⟩) (by assumption) ?_
            try simp only [Act.put, List.setIfInBounds_toArray, List.set_cons_zero, List.set_cons_succ, List.getElem_toArray, List.getElem_cons_zero, List.getElem_cons_succ]
            refine wpAnyH_take (i := 14) (v := ?_) rfl (by kernel_rfl) (by kernel_rfl) (by kernel_rfl) (fun _ _ _ h => h) (Or.inl ⟨by rfl, fun w hSw => by (try dsimp only at hSw); go_simp; (try with_reducible rfl)⟩) (by assumption) ?_
            try simp only [Act.put, List.setIfInBounds_toArray, List.set_cons_zero, List.set_cons_succ, List.getElem_toArray, List.getElem_cons_zero, List.getElem_cons_succ]
            refine wpAnyH_take (i := 15) (v := ?_) rfl (by kernel_rfl) (by kernel_rfl) (by kernel_rfl) (fun _ _ _ h => h) (Or.inl ⟨by rfl, fun w hSw => by (try dsimp only at hSw); go_simp; (try with_reducible rfl)⟩) (by assumption) ?_
            try simp only [Act.put, List.setIfInBounds_toArray, List.set_cons_zero, List.set_cons_succ, List.getElem_toArray, List.getElem_cons_zero, List.getElem_cons_succ]
            refine wpAnyH_take (i := 16) (v := undef) rfl (by kernel_rfl) (by kernel_rfl) (by kernel_rfl) (fun _ _ _ h => h) (Or.inr ⟨by rfl, rfl⟩) (by assumption) ?_
            try simp only [Act.put, List.setIfInBounds_toArray, List.set_cons_zero, List.set_cons_succ, List.getElem_toArray, List.getElem_cons_zero, List.getElem_cons_succ]
            refine wpAnyH_take (i := 17) (v := undef) rfl (by kernel_rfl) (by kernel_rfl) (by kernel_rfl) (fun _ _ _ h => h) (Or.inr ⟨by rfl, rfl⟩) (by assumption) ?_
            try simp only [Act.put, List.setIfInBounds_toArray, List.set_cons_zero, List.set_cons_succ, List.getElem_toArray, List.getElem_cons_zero, List.getElem_cons_succ]
            refine wpAnyH_take (i := 18) (v := undef) rfl (by kernel_rfl) (by kernel_rfl) (by kernel_rfl) (fun _ _ _ h => h) (Or.inr ⟨by rfl, rfl⟩) (by assumption) ?_
            try simp only [Act.put, List.setIfInBounds_toArray, List.set_cons_zero, List.set_cons_succ, List.getElem_toArray, List.getElem_cons_zero, List.getElem_cons_succ]
            refine wpAnyH_take (i := 19) (v := undef) rfl (by kernel_rfl) (by kernel_rfl) (by kernel_rfl) (fun _ _ _ h => h) (Or.inr ⟨by rfl, rfl⟩) (by assumption) ?_
            try simp only [Act.put, List.setIfInBounds_toArray, List.set_cons_zero, List.set_cons_succ, List.getElem_toArray, List.getElem_cons_zero, List.getElem_cons_succ]
            refine wpAnyH_take (i := 20) (v := undef) rfl (by kernel_rfl) (by kernel_rfl) (by kernel_rfl) (fun _ _ _ h => h) (Or.inr ⟨by rfl, rfl⟩) (by assumption) ?_
            try simp only [Act.put, List.setIfInBounds_toArray, List.set_cons_zero, List.set_cons_succ, List.getElem_toArray, List.getElem_cons_zero, List.getElem_cons_succ]
            refine wpAnyH_take (i := 21) (v := undef) rfl (by kernel_rfl) (by kernel_rfl) (by kernel_rfl) (fun _ _ _ h => h) (Or.inr ⟨by rfl, rfl⟩) (by assumption) ?_
            try simp only [Act.put, List.setIfInBounds_toArray, List.set_cons_zero, List.set_cons_succ, List.getElem_toArray, List.getElem_cons_zero, List.getElem_cons_succ]
            refine wpAnyH_take (i := 22) (v := undef) rfl (by kernel_rfl) (by kernel_rfl) (by kernel_rfl) (fun _ _ _ h => h) (Or.inr ⟨by rfl, rfl⟩) (by assumption) ?_
            try simp only [Act.put, List.setIfInBounds_toArray, List.set_cons_zero, List.set_cons_succ, List.getElem_toArray, List.getElem_cons_zero, List.getElem_cons_succ]
            refine wpAnyH_take (i := 23) (v := undef) rfl (by kernel_rfl) (by kernel_rfl) (by kernel_rfl) (fun _ _ _ h => h) (Or.inr ⟨by rfl, rfl⟩) (by assumption) ?_
            try simp only [Act.put, List.setIfInBounds_toArray, List.set_cons_zero, List.set_cons_succ, List.getElem_toArray, List.getElem_cons_zero, List.getElem_cons_succ]
            refine wpAnyH_take (i := 24) (v := undef) rfl (by kernel_rfl) (by kernel_rfl) (by kernel_rfl) (fun _ _ _ h => h) (Or.inr ⟨by rfl, rfl⟩) (by assumption) ?_
            try simp only [Act.put, List.setIfInBounds_toArray, List.set_cons_zero, List.set_cons_succ, List.getElem_toArray, List.getElem_cons_zero, List.getElem_cons_succ]
            refine wpAnyH_take (i := 25) (v := undef) rfl (by kernel_rfl) (by kernel_rfl) (by kernel_rfl) (fun _ _ _ h => h) (Or.inr ⟨by rfl, rfl⟩) (by assumption) ?_
            try simp only [Act.put, List.setIfInBounds_toArray, List.set_cons_zero, List.set_cons_succ, List.getElem_toArray, List.getElem_cons_zero, List.getElem_cons_succ]
            refine wpAnyH_take (i := 26) (v := undef) rfl (by kernel_rfl) (by kernel_rfl) (by kernel_rfl) (fun _ _ _ h => h) (Or.inr ⟨by rfl, rfl⟩) (by assumption) ?_
            try simp only [Act.put, List.setIfInBounds_toArray, List.set_cons_zero, List.set_cons_succ, List.getElem_toArray, List.getElem_cons_zero, List.getElem_cons_succ]
            refine wpAnyH_take (i := 27) (v := undef) rfl (by kernel_rfl) (by kernel_rfl) (by kernel_rfl) (fun _ _ _ h => h) (Or.inr ⟨by rfl, rfl⟩) (by assumption) ?_
            try simp only [Act.put, List.setIfInBounds_toArray, List.set_cons_zero, List.set_cons_succ, List.getElem_toArray, List.getElem_cons_zero, List.getElem_cons_succ]
            refine wpAnyH_take (i := 28) (v := undef) rfl (by kernel_rfl) (by kernel_rfl) (by kernel_rfl) (fun _ _ _ h => h) (Or.inr ⟨by rfl, rfl⟩) (by assumption) ?_
            try simp only [Act.put, List.setIfInBounds_toArray, List.set_cons_zero, List.set_cons_succ, List.getElem_toArray, List.getElem_cons_zero, List.getElem_cons_succ]
            refine wpAnyH_take (i := 29) (v := undef) rfl (by kernel_rfl) (by kernel_rfl) (by kernel_rfl) (fun _ _ _ h => h) (Or.inr ⟨by rfl, rfl⟩) (by assumption) ?_
            try simp only [Act.put, List.setIfInBounds_toArray, List.set_cons_zero, List.set_cons_succ, List.getElem_toArray, List.getElem_cons_zero, List.getElem_cons_succ]
            refine wpAnyH_take (i := 30) (v := undef) rfl (by kernel_rfl) (by kernel_rfl) (by kernel_rfl) (fun _ _ _ h => h) (Or.inr ⟨by rfl, rfl⟩) (by assumption) ?_
            try simp only [Act.put, List.setIfInBounds_toArray, List.set_cons_zero, List.set_cons_succ, List.getElem_toArray, List.getElem_cons_zero, List.getElem_cons_succ]
            refine wpAnyH_take (i := 31) (v := undef) rfl (by kernel_rfl) (by kernel_rfl) (by kernel_rfl) (fun _ _ _ h => h) (Or.inr ⟨by rfl, rfl⟩) (by assumption) ?_
            try simp only [Act.put, List.setIfInBounds_toArray, List.set_cons_zero, List.set_cons_succ, List.getElem_toArray, List.getElem_cons_zero, List.getElem_cons_succ]
            refine wpAnyH_take (i := 32) (v := undef) rfl (by kernel_rfl) (by kernel_rfl) (by kernel_rfl) (fun _ _ _ h => h) (Or.inr ⟨by rfl, rfl⟩) (by assumption) ?_
            try simp only [Act.put, List.setIfInBounds_toArray, List.set_cons_zero, List.set_cons_succ, List.getElem_toArray, List.getElem_cons_zero, List.getElem_cons_succ]
            refine wpAnyH_take (i := 33) (v := undef) rfl (by kernel_rfl) (by kernel_rfl) (by kernel_rfl) (fun _ _ _ h => h) (Or.inr ⟨by rfl, rfl⟩) (by assumption) ?_
            try simp only [Act.put, List.setIfInBounds_toArray, List.set_cons_zero, List.set_cons_succ, List.getElem_toArray, List.getElem_cons_zero, List.getElem_cons_succ]
            refine wpAnyH_take (i := 34) (v := undef) rfl (by kernel_rfl) (by kernel_rfl) (by kernel_rfl) (fun _ _ _ h => h) (Or.inr ⟨by rfl, rfl⟩) (by assumption) ?_
            try simp only [Act.put, List.setIfInBounds_toArray, List.set_cons_zero, List.set_cons_succ, List.getElem_toArray, List.getElem_cons_zero, List.getElem_cons_succ]
            refine wpAnyH_take (i := 35) (v := undef) rfl (by kernel_rfl) (by kernel_rfl) (by kernel_rfl) (fun _ _ _ h => h) (Or.inr ⟨by rfl, rfl⟩) (by assumption) ?_
            try simp only [Act.put, List.setIfInBounds_toArray, List.set_cons_zero, List.set_cons_succ, List.getElem_toArray, List.getElem_cons_zero, List.getElem_cons_succ]
            refine wpAnyH_take (i := 36) (v := ?_) rfl (by kernel_rfl) (by kernel_rfl) (by kernel_rfl) (fun _ _ _ h => h) (Or.inl ⟨by rfl, fun w hSw => by (try dsimp only at hSw); go_simp; (try with_reducible rfl)⟩) (by assumption) ?_
            try simp only [Act.put, List.setIfInBounds_toArray, List.set_cons_zero, List.set_cons_succ, List.getElem_toArray, List.getElem_cons_zero, List.getElem_cons_succ]
            refine wpAnyH_take (i := 37) (v := ?_) rfl (by kernel_rfl) (by kernel_rfl) (by kernel_rfl) (fun _ _ _ h => h) (Or.inl ⟨by rfl, fun w hSw => by (try dsimp only at hSw); go_simp; (try with_reducible rfl)⟩) (by assumption) ?_
            try simp only [Act.put, List.setIfInBounds_toArray, List.set_cons_zero, List.set_cons_succ, List.getElem_toArray, List.getElem_cons_zero, List.getElem_cons_succ]
            refine wpAnyH_done (by kernel_rfl) ?_ _
            go_wp2
            go_roundw
            case rel => exact ⟨k + 1, by omega, by go_num, HR.out, HBX.out.drew⟩
            case measure => go_light; simp [intOf]; omega
          · subst hh
            go_wp2_with fail
            refine wp_region_held_drew (S := fun w' => w'.cell? ⟨w.heap.size + 1, 1, none⟩ = some (.slice (some ⟨g, 0, none⟩) len cap) ∧ w'.cell? ⟨g, k * 2, none⟩ = some (.int .i64 yh) ∧ w'.cell? ⟨g, k * 2 + 1, none⟩ = some (.int .i64 yn) ∧ w'.cell? ⟨xb, 0, none⟩ = some (.int .i64 yh) ∧ w'.cell? ⟨xb, 1, none⟩ = some (.int .i64 ((u : Int) + 1))) (by kernel_rfl) (by first | exact ⟨r1, c0, c1, x0, x1⟩ | assumption) (fun hHeld => ?_)
            refine wpAnyH_take (i := 0) (v := ?_) rfl (by kernel_rfl) (by kernel_rfl) (by kernel_rfl) (fun _ _ _ h => h) (Or.inl ⟨by rfl, fun w hSw => by (try dsimp only at hSw); go_simp; (try with_reducible rfl)⟩) (by assumption) ?_
            try simp only [Act.put, List.setIfInBounds_toArray, List.set_cons_zero, List.set_cons_succ, List.getElem_toArray, List.getElem_cons_zero, List.getElem_cons_succ]
            refine wpAnyH_take (i := 1) (v := ?_) rfl (by kernel_rfl) (by kernel_rfl) (by kernel_rfl) (fun _ _ _ h => h) (Or.inl ⟨by rfl, fun w hSw => by (try dsimp only at hSw); go_simp; (try with_reducible rfl)⟩) (by assumption) ?_
            try simp only [Act.put, List.setIfInBounds_toArray, List.set_cons_zero, List.set_cons_succ, List.getElem_toArray, List.getElem_cons_zero, List.getElem_cons_succ]
            refine wpAnyH_take (i := 2) (v := ?_) rfl (by kernel_rfl) (by kernel_rfl) (by kernel_rfl) (fun _ _ _ h => h) (Or.inl ⟨by rfl, fun w hSw => by (try dsimp only at hSw); go_simp; (try with_reducible rfl)⟩) (by assumption) ?_
            try simp only [Act.put, List.setIfInBounds_toArray, List.set_cons_zero, List.set_cons_succ, List.getElem_toArray, List.getElem_cons_zero, List.getElem_cons_succ]
            refine wpAnyH_take (i := 3) (v := ?_) rfl (by kernel_rfl) (by kernel_rfl) (by kernel_rfl) (fun _ _ _ h => h) (Or.inl ⟨by rfl, fun w hSw => by (try dsimp only at hSw); go_simp; (try with_reducible rfl)⟩) (by assumption) ?_
            try simp only [Act.put, List.setIfInBounds_toArray, List.set_cons_zero, List.set_cons_succ, List.getElem_toArray, List.getElem_cons_zero, List.getElem_cons_succ]
            refine wpAnyH_take (i := 4) (v := ?_) rfl (by kernel_rfl) (by kernel_rfl) (by kernel_rfl) (fun _ _ _ h => h) (Or.inl ⟨by rfl, fun w hSw => by (try dsimp only at hSw); go_simp; (try with_reducible rfl)⟩) (by assumption) ?_
            try simp only [Act.put, List.setIfInBounds_toArray, List.set_cons_zero, List.set_cons_succ, List.getElem_toArray, List.getElem_cons_zero, List.getElem_cons_succ]
            refine wpAnyH_take (i := 5) (v := ?_) rfl (by kernel_rfl) (by kernel_rfl) (by kernel_rfl) (fun _ _ _ h => h) (Or.inl ⟨by rfl, fun w hSw => by (try dsimp only at hSw); go_simp; (try with_reducible rfl)⟩) (by assumption) ?_
            try simp only [Act.put, List.setIfInBounds_toArray, List.set_cons_zero, List.set_cons_succ, List.getElem_toArray, List.getElem_cons_zero, List.getElem_cons_succ]
            refine wpAnyH_take (i := 6) (v := ?_) rfl (by kernel_rfl) (by kernel_rfl) (by kernel_rfl) (fun _ _ _ h => h) (Or.inl ⟨by rfl, fun w hSw => by (try dsimp only at hSw); go_simp; (try with_reducible rfl)⟩) (by assumption) ?_
            try simp only [Act.put, List.setIfInBounds_toArray, List.set_cons_zero, List.set_cons_succ, List.getElem_toArray, List.getElem_cons_zero, List.getElem_cons_succ]
            refine wpAnyH_take (i := 7) (v := ?_) rfl (by kernel_rfl) (by kernel_rfl) (by kernel_rfl) (fun _ _ _ h => h) (Or.inl ⟨by rfl, fun w hSw => by (try dsimp only at hSw); go_simp; (try with_reducible rfl)⟩) (by assumption) ?_
            try simp only [Act.put, List.setIfInBounds_toArray, List.set_cons_zero, List.set_cons_succ, List.getElem_toArray, List.getElem_cons_zero, List.getElem_cons_succ]
            refine wpAnyH_take (i := 8) (v := ?_) rfl (by kernel_rfl) (by kernel_rfl) (by kernel_rfl) (fun _ _ _ h => h) (Or.inl ⟨by rfl, fun w hSw => by (try dsimp only at hSw); go_simp; (try with_reducible rfl)⟩) (by assumption) ?_
            try simp only [Act.put, List.setIfInBounds_toArray, List.set_cons_zero, List.set_cons_succ, List.getElem_toArray, List.getElem_cons_zero, List.getElem_cons_succ]
            refine wpAnyH_take (i := 9) (v := ?_) rfl (by kernel_rfl) (by kernel_rfl) (by kernel_rfl) (fun _ _ _ h => h) (Or.inl ⟨by rfl, fun w hSw => by (try dsimp only at hSw); go_simp; (try with_reducible rfl)⟩) (by assumption) ?_
            try simp only [Act.put, List.setIfInBounds_toArray, List.set_cons_zero, List.set_cons_succ, List.getElem_toArray, List.getElem_cons_zero, List.getElem_cons_succ]
            refine wpAnyH_take (i := 10) (v := ?_) rfl (by kernel_rfl) (by kernel_rfl) (by kernel_rfl) (fun _ _ _ h => h) (Or.inl ⟨by rfl, fun w hSw => by (try dsimp only at hSw); go_simp; (try with_reducible rfl)⟩) (by assumption) ?_
            try simp only [Act.put, List.setIfInBounds_toArray, List.set_cons_zero, List.set_cons_succ, List.getElem_toArray, List.getElem_cons_zero, List.getElem_cons_succ]
            refine wpAnyH_take (i := 11) (v := ?_) rfl (by kernel_rfl) (by kernel_rfl) (by kernel_rfl) (fun _ _ _ h => h) (Or.inl ⟨by rfl, fun w hSw => by (try dsimp only at hSw); go_simp; (try with_reducible rfl)⟩) (by assumption) ?_
            try simp only [Act.put, List.setIfInBounds_toArray, List.set_cons_zero, List.set_cons_succ, List.getElem_toArray, List.getElem_cons_zero, List.getElem_cons_succ]
            refine wpAnyH_take (i := 12) (v := ?_) rfl (by kernel_rfl) (by kernel_rfl) (by kernel_rfl) (fun _ _ _ h => h) (Or.inl ⟨by rfl, fun w hSw => by (try dsimp only at hSw); go_simp; (try with_reducible rfl)⟩) (by assumption) ?_
            try simp only [Act.put, List.setIfInBounds_toArray, List.set_cons_zero, List.set_cons_succ, List.getElem_toArray, List.getElem_cons_zero, List.getElem_cons_succ]
            refine wpAnyH_take (i := 13) (v := ?_) rfl (by kernel_rfl) (by kernel_rfl) (by kernel_rfl) (fun _ _ _ h => h) (Or.inl ⟨by rfl, fun w hSw => by (try dsimp only at hSw); go_simp; (try with_reducible rfl)⟩) (by assumption) ?_
            try simp only [Act.put, List.setIfInBounds_toArray, List.set_cons_zero, List.set_cons_succ, List.getElem_toArray, List.getElem_cons_zero, List.getElem_cons_succ]
            refine wpAnyH_take (i := 14) (v := ?_) rfl (by kernel_rfl) (by kernel_rfl) (by kernel_rfl) (fun _ _ _ h => h) (Or.inl ⟨by rfl, fun w hSw => by (try dsimp only at hSw); go_simp; (try with_reducible rfl)⟩) (by assumption) ?_
            try simp only [Act.put, List.setIfInBounds_toArray, List.set_cons_zero, List.set_cons_succ, List.getElem_toArray, List.getElem_cons_zero, List.getElem_cons_succ]
            refine wpAnyH_take (i := 15) (v := ?_) rfl (by kernel_rfl) (by kernel_rfl) (by kernel_rfl) (fun _ _ _ h => h) (Or.inl ⟨by rfl, fun w hSw => by (try dsimp only at hSw); go_simp; (try with_reducible rfl)⟩) (by assumption) ?_
            try simp only [Act.put, List.setIfInBounds_toArray, List.set_cons_zero, List.set_cons_succ, List.getElem_toArray, List.getElem_cons_zero, List.getElem_cons_succ]
            refine wpAnyH_take (i := 16) (v := ?_) rfl (by kernel_rfl) (by kernel_rfl) (by kernel_rfl) (fun _ _ _ h => h) (Or.inl ⟨by rfl, fun w hSw => by (try dsimp only at hSw); go_simp; (try with_reducible rfl)⟩) (by assumption) ?_
            try simp only [Act.put, List.setIfInBounds_toArray, List.set_cons_zero, List.set_cons_succ, List.getElem_toArray, List.getElem_cons_zero, List.getElem_cons_succ]
            refine wpAnyH_take (i := 17) (v := ?_) rfl (by kernel_rfl) (by kernel_rfl) (by kernel_rfl) (fun _ _ _ h => h) (Or.inl ⟨by rfl, fun w hSw => by (try dsimp only at hSw); go_simp; (try with_reducible rfl)⟩) (by assumption) ?_
            try simp only [Act.put, List.setIfInBounds_toArray, List.set_cons_zero, List.set_cons_succ, List.getElem_toArray, List.getElem_cons_zero, List.getElem_cons_succ]
            refine wpAnyH_take (i := 18) (v := ?_) rfl (by kernel_rfl) (by kernel_rfl) (by kernel_rfl) (fun _ _ _ h => h) (Or.inl ⟨by rfl, fun w hSw => by (try dsimp only at hSw); go_simp; (try with_reducible rfl)⟩) (by assumption) ?_
            try simp only [Act.put, List.setIfInBounds_toArray, List.set_cons_zero, List.set_cons_succ, List.getElem_toArray, List.getElem_cons_zero, List.getElem_cons_succ]
            refine wpAnyH_take (i := 19) (v := ?_) rfl (by kernel_rfl) (by kernel_rfl) (by kernel_rfl) (fun _ _ _ h => h) (Or.inl ⟨by rfl, fun w hSw => by (try dsimp only at hSw); go_simp; (try with_reducible rfl)⟩) (by assumption) ?_
            try simp only [Act.put, List.setIfInBounds_toArray, List.set_cons_zero, List.set_cons_succ, List.getElem_toArray, List.getElem_cons_zero, List.getElem_cons_succ]
            refine wpAnyH_take (i := 20) (v := ?_) rfl (by kernel_rfl) (by kernel_rfl) (by kernel_rfl) (fun _ _ _ h => h) (Or.inl ⟨by rfl, fun w hSw => by (try dsimp only at hSw); go_simp; (try with_reducible rfl)⟩) (by assumption) ?_
            try simp only [Act.put, List.setIfInBounds_toArray, List.set_cons_zero, List.set_cons_succ, List.getElem_toArray, List.getElem_cons_zero, List.getElem_cons_succ]
            refine wpAnyH_take (i := 21) (v := ?_) rfl (by kernel_rfl) (by kernel_rfl) (by kernel_rfl) (fun _ _ _ h => h) (Or.inl ⟨by rfl, fun w hSw => by (try dsimp only at hSw); go_simp; (try with_reducible rfl)⟩) (by assumption) ?_
            try simp only [Act.put, List.setIfInBounds_toArray, List.set_cons_zero, List.set_cons_succ, List.getElem_toArray, List.getElem_cons_zero, List.getElem_cons_succ]
            refine wpAnyH_take (i := 22) (v := ?_) rfl (by kernel_rfl) (by kernel_rfl) (by kernel_rfl) (fun _ _ _ h => h) (Or.inl ⟨by rfl, fun w hSw => by (try dsimp only at hSw); go_simp; (try with_reducible rfl)⟩) (by assumption) ?_
            try simp only [Act.put, List.setIfInBounds_toArray, List.set_cons_zero, List.set_cons_succ, List.getElem_toArray, List.getElem_cons_zero, List.getElem_cons_succ]
            refine wpAnyH_take (i := 23) (v := ?_) rfl (by kernel_rfl) (by kernel_rfl) (by kernel_rfl) (fun _ _ _ h => h) (Or.inl ⟨by rfl, fun w hSw => by (try dsimp only at hSw); go_simp; (try with_reducible rfl)⟩) (by assumption) ?_
            try simp only [Act.put, List.setIfInBounds_toArray, List.set_cons_zero, List.set_cons_succ, List.getElem_toArray, List.getElem_cons_zero, List.getElem_cons_succ]
            refine wpAnyH_take (i := 24) (v := ?_) rfl (by kernel_rfl) (by kernel_rfl) (by kernel_rfl) (fun _ _ _ h => h) (Or.inl ⟨by rfl, fun w hSw => by (try dsimp only at hSw); go_simp; (try with_reducible rfl)⟩) (by assumption) ?_
            try simp only [Act.put, List.setIfInBounds_toArray, List.set_cons_zero, List.set_cons_succ, List.getElem_toArray, List.getElem_cons_zero, List.getElem_cons_succ]
            refine wpAnyH_take (i := 25) (v := ?_) rfl (by kernel_rfl) (by kernel_rfl) (by kernel_rfl) (fun _ _ _ h => h) (Or.inl ⟨by rfl, fun w hSw => by (try dsimp only at hSw); go_simp; (try with_reducible rfl)⟩) (by assumption) ?_
            try simp only [Act.put, List.setIfInBounds_toArray, List.set_cons_zero, List.set_cons_succ, List.getElem_toArray, List.getElem_cons_zero, List.getElem_cons_succ]
            refine wpAnyH_take (i := 26) (v := ?_) rfl (by kernel_rfl) (by kernel_rfl) (by kernel_rfl) (fun _ _ _ h => h) (Or.inl ⟨by rfl, fun w hSw => by (try dsimp only at hSw); go_simp; (try with_reducible rfl)⟩) (by assumption) ?_
            try simp only [Act.put, List.setIfInBounds_toArray, List.set_cons_zero, List.set_cons_succ, List.getElem_toArray, List.getElem_cons_zero, List.getElem_cons_succ]
            refine wpAnyH_take (i := 27) (v := ?_) rfl (by kernel_rfl) (by kernel_rfl) (by kernel_rfl) (fun _ _ _ h => h) (Or.inl ⟨by rfl, fun w hSw => by (try dsimp only at hSw); go_simp; (try with_reducible rfl)⟩) (by assumption) ?_
            try simp only [Act.put, List.setIfInBounds_toArray, List.set_cons_zero, List.set_cons_succ, List.getElem_toArray, List.getElem_cons_zero, List.getElem_cons_succ]
            refine wpAnyH_take (i := 28) (v := ?_) rfl (by kernel_rfl) (by kernel_rfl) (by kernel_rfl) (fun _ _ _ h => h) (Or.inl ⟨by rfl, fun w hSw => by (try dsimp only at hSw); go_simp; (try with_reducible rfl)⟩) (by assumption) ?_
            try simp only [Act.put, List.setIfInBounds_toArray, List.set_cons_zero, List.set_cons_succ, List.getElem_toArray, List.getElem_cons_zero, List.getElem_cons_succ]
            refine wpAnyH_take (i := 29) (v := ?_) rfl (by kernel_rfl) (by kernel_rfl) (by kernel_rfl) (fun _ _ _ h => h) (Or.inl ⟨by rfl, fun w hSw => by (try dsimp only at hSw); go_simp; (try with_reducible rfl)⟩) (by assumption) ?_
            try simp only [Act.put, List.setIfInBounds_toArray, List.set_cons_zero, List.set_cons_succ, List.getElem_toArray, List.getElem_cons_zero, List.getElem_cons_succ]
            refine wpAnyH_take (i := 30) (v := ?_) rfl (by kernel_rfl) (by kernel_rfl) (by kernel_rfl) (fun _ _ _ h => h) (Or.inl ⟨by rfl, fun w hSw => by (try dsimp only at hSw); go_simp; (try with_reducible rfl)⟩) (by assumption) ?_
            try simp only [Act.put, List.setIfInBounds_toArray, List.set_cons_zero, List.set_cons_succ, List.getElem_toArray, List.getElem_cons_zero, List.getElem_cons_succ]
            refine wpAnyH_take (i := 31) (v := ?_) rfl (by kernel_rfl) (by kernel_rfl) (by kernel_rfl) (fun _ _ _ h => h) (Or.inl ⟨by rfl, fun w hSw => by (try dsimp only at hSw); go_simp; (try with_reducible rfl)⟩) (by assumption) ?_
            try simp only [Act.put, List.setIfInBounds_toArray, List.set_cons_zero, List.set_cons_succ, List.getElem_toArray, List.getElem_cons_zero, List.getElem_cons_succ]
            refine wpAnyH_take (i := 32) (v := ?_) rfl (by kernel_rfl) (by kernel_rfl) (by kernel_rfl) (fun _ _ _ h => h) (Or.inl ⟨by rfl, fun w hSw => by (try dsimp only at hSw); go_simp; (try with_reducible rfl)⟩) (by assumption) ?_
            try simp only [Act.put, List.setIfInBounds_toArray, List.set_cons_zero, List.set_cons_succ, List.getElem_toArray, List.getElem_cons_zero, List.getElem_cons_succ]
            refine wpAnyH_take (i := 33) (v := ?_) rfl (by kernel_rfl) (by kernel_rfl) (by kernel_rfl) (fun _ _ _ h => h) (Or.inl ⟨by rfl, fun w hSw => by (try dsimp only at hSw); go_simp; (try with_reducible rfl)⟩) (by assumption) ?_
            try simp only [Act.put, List.setIfInBounds_toArray, List.set_cons_zero, List.set_cons_succ, List.getElem_toArray, List.getElem_cons_zero, List.getElem_cons_succ]
            refine wpAnyH_take (i := 34) (v := ?_) rfl (by kernel_rfl) (by kernel_rfl) (by kernel_rfl) (fun _ _ _ h => h) (Or.inl ⟨by rfl, fun w hSw => by (try dsimp only at hSw); go_simp; (try with_reducible rfl)⟩) (by assumption) ?_
            try simp only [Act.put, List.setIfInBounds_toArray, List.set_cons_zero, List.set_cons_succ, List.getElem_toArray, List.getElem_cons_zero, List.getElem_cons_succ]
            refine wpAnyH_take (i := 35) (v := ?_) rfl (by kernel_rfl) (by kernel_rfl) (by kernel_rfl) (fun _ _ _ h => h) (Or.inl ⟨by rfl, fun w hSw => by (try dsimp only at hSw); go_simp; (try with_reducible rfl)⟩) (by assumption) ?_
            try simp only [Act.put, List.setIfInBounds_toArray, List.set_cons_zero, List.set_cons_succ, List.getElem_toArray, List.getElem_cons_zero, List.getElem_cons_succ]
            refine wpAnyH_take (i := 36) (v := ?_) rfl (by kernel_rfl) (by kernel_rfl) (by kernel_rfl) (fun _ _ _ h => h) (Or.inl ⟨by rfl, fun w hSw => by (try dsimp only at hSw); go_simp; (try with_reducible rfl)⟩) (by assumption) ?_
            try simp only [Act.put, List.setIfInBounds_toArray, List.set_cons_zero, List.set_cons_succ, List.getElem_toArray, List.getElem_cons_zero, List.getElem_cons_succ]
            refine wpAnyH_take (i := 37) (v := ?_) rfl (by kernel_rfl) (by kernel_rfl) (by kernel_rfl) (fun _ _ _ h => h) (Or.inl ⟨by rfl, fun w hSw => by (try dsimp only at hSw); go_simp; (try with_reducible rfl)⟩) (by assumption) ?_
            try simp only [Act.put, List.setIfInBounds_toArray, List.set_cons_zero, List.set_cons_succ, List.getElem_toArray, List.getElem_cons_zero, List.getElem_cons_succ]
            refine wpAnyH_done (by kernel_rfl) ?_ _
            go_wp2
            go_roundw
            case rel => exact ⟨k + 1, by omega, by go_num, HR.out, HBX.out.drew⟩
            case measure => go_light; simp [intOf]; omega
        · have htf : tlt (yh, yn) (xh, ((u : Int) + 1)) = false := by simpa using htl
          have HP := Lib.hid (tpos_eq l (xh, ((u : Int) + 1)) k (by omega) HLO.out (fun h => by rw [HE.out]; exact htf))
          rw [tlt_no] at htf
          dsimp only at htf
          clear htl
          by_cases hh : xh < yh
          · have hh1 : decide (yh < xh) = false := by simp; omega
            have hh2 : decide (yh = xh) = false := by simp; omega
            have hh3 : (yh == xh) = false := by simp; omega
            go_wp2_with fail
            refine wp_region_held_drew (S := fun w' => w'.cell? ⟨w.heap.size + 1, 1, none⟩ = some (.slice (some ⟨g, 0, none⟩) len cap) ∧ w'.cell? ⟨g, k * 2, none⟩ = some (.int .i64 yh) ∧ w'.cell? ⟨g, k * 2 + 1, none⟩ = some (.int .i64 yn) ∧ w'.cell? ⟨xb, 0, none⟩ = some (.int .i64 xh) ∧ w'.cell? ⟨xb, 1, none⟩ = some (.int .i64 ((u : Int) + 1))) (by kernel_rfl) (by first | exact ⟨r1, c0, c1, x0, x1⟩ | assumption) (fun hHeld => ?_)
            refine wpAnyH_take (i := 0) (v := ?_) rfl (by kernel_rfl) (by kernel_rfl) (by kernel_rfl) (fun _ _ _ h => h) (Or.inl ⟨by rfl, fun w hSw => by (try dsimp only at hSw); go_simp; (try with_reducible rfl)⟩) (by assumption) ?_
            try simp only [Act.put, List.setIfInBounds_toArray, List.set_cons_zero, List.set_cons_succ, List.getElem_toArray, List.getElem_cons_zero, List.getElem_cons_succ]
            refine wpAnyH_take (i := 1) (v := ?_) rfl (by kernel_rfl) (by kernel_rfl) (by kernel_rfl) (fun _ _ _ h => h) (Or.inl ⟨by rfl, fun w hSw => by (try dsimp only at hSw); go_simp; (try with_reducible rfl)⟩) (by assumption) ?_
            try simp only [Act.put, List.setIfInBounds_toArray, List.set_cons_zero, List.set_cons_succ, List.getElem_toArray, List.getElem_cons_zero, List.getElem_cons_succ]
            refine wpAnyH_take (i := 2) (v := ?_) rfl (by kernel_rfl) (by kernel_rfl) (by kernel_rfl) (fun _ _ _ h => h) (Or.inl ⟨by rfl, fun w hSw => by (try dsimp only at hSw); go_simp; (try with_reducible rfl)⟩) (by assumption) ?_
            try simp only [Act.put, List.setIfInBounds_toArray, List.set_cons_zero, List.set_cons_succ, List.getElem_toArray, List.getElem_cons_zero, List.getElem_cons_succ]
            refine wpAnyH_take (i := 3) (v := ?_) rfl (by kernel_rfl) (by kernel_rfl) (by kernel_rfl) (fun _ _ _ h => h) (Or.inl ⟨by rfl, fun w hSw => by (try dsimp only at hSw); go_simp; (try with_reducible rfl)⟩) (by assumption) ?_
            try simp only [Act.put, List.setIfInBounds_toArray, List.set_cons_zero, List.set_cons_succ, List.getElem_toArray, List.getElem_cons_zero, List.getElem_cons_succ]
            refine wpAnyH_take (i := 4) (v := ?_) rfl (by kernel_rfl) (by kernel_rfl) (by kernel_rfl) (fun _ _ _ h => h) (Or.inl ⟨by rfl, fun w hSw => by (try dsimp only at hSw); go_simp; (try with_reducible rfl)⟩) (by assumption) ?_
            try simp only [Act.put, List.setIfInBounds_toArray, List.set_cons_zero, List.set_cons_succ, List.getElem_toArray, List.getElem_cons_zero, List.getElem_cons_succ]
            refine wpAnyH_take (i := 5) (v := ?_) rfl (by kernel_rfl) (by kernel_rfl) (by kernel_rfl) (fun _ _ _ h => h) (Or.inl ⟨by rfl, fun w hSw => by (try dsimp only at hSw); go_simp; (try with_reducible rfl)⟩) (by assumption) ?_
            try simp only [Act.put, List.setIfInBounds_toArray, List.set_cons_zero, List.set_cons_succ, List.getElem_toArray, List.getElem_cons_zero, List.getElem_cons_succ]
            refine wpAnyH_take (i := 6) (v := ?_) rfl (by kernel_rfl) (by kernel_rfl) (by kernel_rfl) (fun _ _ _ h => h) (Or.inl ⟨by rfl, fun w hSw => by (try dsimp only at hSw); go_simp; (try with_reducible rfl)⟩) (by assumption) ?_
            try simp only [Act.put, List.setIfInBounds_toArray, List.set_cons_zero, List.set_cons_succ, List.getElem_toArray, List.getElem_cons_zero, List.getElem_cons_succ]
            refine wpAnyH_take (i := 7) (v := ?_) rfl (by kernel_rfl) (by kernel_rfl) (by kernel_rfl) (fun _ _ _ h => h) (Or.inl ⟨by rfl, fun w hSw => by (try dsimp only at hSw); go_simp; (try with_reducible rfl)⟩) (by assumption) ?_
            try simp only [Act.put, List.setIfInBounds_toArray, List.set_cons_zero, List.set_cons_succ, List.getElem_toArray, List.getElem_cons_zero, List.getElem_cons_succ]
            refine wpAnyH_take (i := 8) (v := ?_) rfl (by kernel_rfl) (by kernel_rfl) (by kernel_rfl) (fun _ _ _ h => h) (Or.inl ⟨by rfl, fun w hSw => by (try dsimp only at hSw); go_simp; (try with_reducible rfl)⟩) (by assumption) ?_
            try simp only [Act.put, List.setIfInBounds_toArray, List.set_cons_zero, List.set_cons_succ, List.getElem_toArray, List.getElem_cons_zero, List.getElem_cons_succ]
            refine wpAnyH_take (i := 9) (v := ?_) rfl (by kernel_rfl) (by kernel_rfl) (by kernel_rfl) (fun _ _ _ h => h) (Or.inl ⟨by rfl, fun w hSw => by (try dsimp only at hSw); go_simp; (try with_reducible rfl)⟩) (by assumption) ?_
            try simp only [Act.put, List.setIfInBounds_toArray, List.set_cons_zero, List.set_cons_succ, List.getElem_toArray, List.getElem_cons_zero, List.getElem_cons_succ]
            refine wpAnyH_take (i := 10) (v := ?_) rfl (by kernel_rfl) (by kernel_rfl) (by kernel_rfl) (fun _ _ _ h => h) (Or.inl ⟨by rfl, fun w hSw => by (try dsimp only at hSw); go_simp; (try with_reducible rfl)⟩) (by assumption) ?_
            try simp only [Act.put, List.setIfInBounds_toArray, List.set_cons_zero, List.set_cons_succ, List.getElem_toArray, List.getElem_cons_zero, List.getElem_cons_succ]
            refine wpAnyH_take (i := 11) (v := ?_) rfl (by kernel_rfl) (by kernel_rfl) (by kernel_rfl) (fun _ _ _ h => h) (Or.inl ⟨by rfl, fun w hSw => by (try dsimp only at hSw); go_simp; (try with_reducible rfl)⟩) (by assumption) ?_
            try simp only [Act.put, List.setIfInBounds_toArray, List.set_cons_zero, List.set_cons_succ, List.getElem_toArray, List.getElem_cons_zero, List.getElem_cons_succ]
            refine wpAnyH_take (i := 12) (v := ?_) rfl (by kernel_rfl) (by kernel_rfl) (by kernel_rfl) (fun _ _ _ h => h) (Or.inl ⟨by rfl, fun w hSw => by (try dsimp only at hSw); go_simp; (try with_reducible rfl)⟩) (by assumption) ?_
            try simp only [Act.put, List.setIfInBounds_toArray, List.set_cons_zero, List.set_cons_succ, List.getElem_toArray, List.getElem_cons_zero, List.getElem_cons_succ]
            refine wpAnyH_take (i := 13) (v := ?_) rfl (by kernel_rfl) (by kernel_rfl) (by kernel_rfl) (fun _ _ _ h => h) (Or.inl ⟨by rfl, fun w hSw => by (try dsimp only at hSw); go_simp; (try with_reducible rfl)⟩) (by assumption) ?_
            try simp only [Act.put, List.setIfInBounds_toArray, List.set_cons_zero, List.set_cons_succ, List.getElem_toArray, List.getElem_cons_zero, List.getElem_cons_succ]
            refine wpAnyH_take (i := 14) (v := ?_) rfl (by kernel_rfl) (by kernel_rfl) (by kernel_rfl) (fun _ _ _ h => h) (Or.inl ⟨by rfl, fun w hSw => by (try dsimp only at hSw); go_simp; (try with_reducible rfl)⟩) (by assumption) ?_
            try simp only [Act.put, List.setIfInBounds_toArray, List.set_cons_zero, List.set_cons_succ, List.getElem_toArray, List.getElem_cons_zero, List.getElem_cons_succ]
            refine wpAnyH_take (i := 15) (v := ?_) rfl (by kernel_rfl) (by kernel_rfl) (by kernel_rfl) (fun _ _ _ h => h) (Or.inl ⟨by rfl, fun w hSw => by (try dsimp only at hSw); go_simp; (try with_reducible rfl)⟩) (by assumption) ?_
            try simp only [Act.put, List.setIfInBounds_toArray, List.set_cons_zero, List.set_cons_succ, List.getElem_toArray, List.getElem_cons_zero, List.getElem_cons_succ]
            refine wpAnyH_take (i := 16) (v := ?_) rfl (by kernel_rfl) (by kernel_rfl) (by kernel_rfl) (fun _ _ _ h => h) (Or.inl ⟨by rfl, fun w hSw => by (try dsimp only at hSw); go_simp; (try with_reducible rfl)⟩) (by assumption) ?_
            try simp only [Act.put, List.setIfInBounds_toArray, List.set_cons_zero, List.set_cons_succ, List.getElem_toArray, List.getElem_cons_zero, List.getElem_cons_succ]
            refine wpAnyH_take (i := 17) (v := ?_) rfl (by kernel_rfl) (by kernel_rfl) (by kernel_rfl) (fun _ _ _ h => h) (Or.inl ⟨by rfl, fun w hSw => by (try dsimp only at hSw); go_simp; (try with_reducible rfl)⟩) (by assumption) ?_
            try simp only [Act.put, List.setIfInBounds_toArray, List.set_cons_zero, List.set_cons_succ, List.getElem_toArray, List.getElem_cons_zero, List.getElem_cons_succ]
            refine wpAnyH_take (i := 18) (v := ?_) rfl (by kernel_rfl) (by kernel_rfl) (by kernel_rfl) (fun _ _ _ h => h) (Or.inl ⟨by rfl, fun w hSw => by (try dsimp only at hSw); go_simp; (try with_reducible rfl)⟩) (by assumption) ?_
            try simp only [Act.put, List.setIfInBounds_toArray, List.set_cons_zero, List.set_cons_succ, List.getElem_toArray, List.getElem_cons_zero, List.getElem_cons_succ]
            refine wpAnyH_take (i := 19) (v := ?_) rfl (by kernel_rfl) (by kernel_rfl) (by kernel_rfl) (fun _ _ _ h => h) (Or.inl ⟨by rfl, fun w hSw => by (try dsimp only at hSw); go_simp; (try with_reducible rfl)⟩) (by assumption) ?_
            try simp only [Act.put, List.setIfInBounds_toArray, List.set_cons_zero, List.set_cons_succ, List.getElem_toArray, List.getElem_cons_zero, List.getElem_cons_succ]
            refine wpAnyH_take (i := 20) (v := ?_) rfl (by kernel_rfl) (by kernel_rfl) (by kernel_rfl) (fun _ _ _ h => h) (Or.inl ⟨by rfl, fun w hSw => by (try dsimp only at hSw); go_simp; (try with_reducible rfl)⟩) (by assumption) ?_
            try simp only [Act.put, List.setIfInBounds_toArray, List.set_cons_zero, List.set_cons_succ, List.getElem_toArray, List.getElem_cons_zero, List.getElem_cons_succ]
            refine wpAnyH_take (i := 21) (v := ?_) rfl (by kernel_rfl) (by kernel_rfl) (by kernel_rfl) (fun _ _ _ h => h) (Or.inl ⟨by rfl, fun w hSw => by (try dsimp only at hSw); go_simp; (try with_reducible rfl)⟩) (by assumption) ?_
            try simp only [Act.put, List.setIfInBounds_toArray, List.set_cons_zero, List.set_cons_succ, List.getElem_toArray, List.getElem_cons_zero, List.getElem_cons_succ]
            refine wpAnyH_take (i := 22) (v := ?_) rfl (by kernel_rfl) (by kernel_rfl) (by kernel_rfl) (fun _ _ _ h => h) (Or.inl ⟨by rfl, fun w hSw => by (try dsimp only at hSw); go_simp; (try with_reducible rfl)⟩) (by assumption) ?_
            try simp only [Act.put, List.setIfInBounds_toArray, List.set_cons_zero, List.set_cons_succ, List.getElem_toArray, List.getElem_cons_zero, List.getElem_cons_succ]
            refine wpAnyH_take (i := 23) (v := ?_) rfl (by kernel_rfl) (by kernel_rfl) (by kernel_rfl) (fun _ _ _ h => h) (Or.inl ⟨by rfl, fun w hSw => by (try dsimp only at hSw); go_simp; (try with_reducible rfl)⟩) (by assumption) ?_
            try simp only [Act.put, List.setIfInBounds_toArray, List.set_cons_zero, List.set_cons_succ, List.getElem_toArray, List.getElem_cons_zero, List.getElem_cons_succ]
            refine wpAnyH_take (i := 24) (v := ?_) rfl (by kernel_rfl) (by kernel_rfl) (by kernel_rfl) (fun _ _ _ h => h) (Or.inl ⟨by rfl, fun w hSw => by (try dsimp only at hSw); go_simp; (try with_reducible rfl)⟩) (by assumption) ?_
            try simp only [Act.put, List.setIfInBounds_toArray, List.set_cons_zero, List.set_cons_succ, List.getElem_toArray, List.getElem_cons_zero, List.getElem_cons_succ]
            refine wpAnyH_take (i := 25) (v := ?_) rfl (by kernel_rfl) (by kernel_rfl) (by kernel_rfl) (fun _ _ _ h => h) (Or.inl ⟨by rfl, fun w hSw => by (try dsimp only at hSw); go_simp; (try with_reducible rfl)⟩) (by assumption) ?_
            try simp only [Act.put, List.setIfInBounds_toArray, List.set_cons_zero, List.set_cons_succ, List.getElem_toArray, List.getElem_cons_zero, List.getElem_cons_succ]
            refine wpAnyH_take (i := 26) (v := undef) rfl (by kernel_rfl) (by kernel_rfl) (by kernel_rfl) (fun _ _ _ h => h) (Or.inr ⟨by rfl, rfl⟩) (by assumption) ?_
            try simp only [Act.put, List.setIfInBounds_toArray, List.set_cons_zero, List.set_cons_succ, List.getElem_toArray, List.getElem_cons_zero, List.getElem_cons_succ]
            refine wpAnyH_take (i := 27) (v := undef) rfl (by kernel_rfl) (by kernel_rfl) (by kernel_rfl) (fun _ _ _ h => h) (Or.inr ⟨by rfl, rfl⟩) (by assumption) ?_
            try simp only [Act.put, List.setIfInBounds_toArray, List.set_cons_zero, List.set_cons_succ, List.getElem_toArray, List.getElem_cons_zero, List.getElem_cons_succ]
            refine wpAnyH_take (i := 28) (v := undef) rfl (by kernel_rfl) (by kernel_rfl) (by kernel_rfl) (fun _ _ _ h => h) (Or.inr ⟨by rfl, rfl⟩) (by assumption) ?_
            try simp only [Act.put, List.setIfInBounds_toArray, List.set_cons_zero, List.set_cons_succ, List.getElem_toArray, List.getElem_cons_zero, List.getElem_cons_succ]
            refine wpAnyH_take (i := 29) (v := undef) rfl (by kernel_rfl) (by kernel_rfl) (by kernel_rfl) (fun _ _ _ h => h) (Or.inr ⟨by rfl, rfl⟩) (by assumption) ?_
            try simp only [Act.put, List.setIfInBounds_toArray, List.set_cons_zero, List.set_cons_succ, List.getElem_toArray, List.getElem_cons_zero, List.getElem_cons_succ]
            refine wpAnyH_take (i := 30) (v := undef) rfl (by kernel_rfl) (by kernel_rfl) (by kernel_rfl) (fun _ _ _ h => h) (Or.inr ⟨by rfl, rfl⟩) (by assumption) ?_
            try simp only [Act.put, List.setIfInBounds_toArray, List.set_cons_zero, List.set_cons_succ, List.getElem_toArray, List.getElem_cons_zero, List.getElem_cons_succ]
            refine wpAnyH_take (i := 31) (v := undef) rfl (by kernel_rfl) (by kernel_rfl) (by kernel_rfl) (fun _ _ _ h => h) (Or.inr ⟨by rfl, rfl⟩) (by assumption) ?_
            try simp only [Act.put, List.setIfInBounds_toArray, List.set_cons_zero, List.set_cons_succ, List.getElem_toArray, List.getElem_cons_zero, List.getElem_cons_succ]
            refine wpAnyH_take (i := 32) (v := undef) rfl (by kernel_rfl) (by kernel_rfl) (by kernel_rfl) (fun _ _ _ h => h) (Or.inr ⟨by rfl, rfl⟩) (by assumption) ?_
            try simp only [Act.put, List.setIfInBounds_toArray, List.set_cons_zero, List.set_cons_succ, List.getElem_toArray, List.getElem_cons_zero, List.getElem_cons_succ]
            refine wpAnyH_take (i := 33) (v := undef) rfl (by kernel_rfl) (by kernel_rfl) (by kernel_rfl) (fun _ _ _ h => h) (Or.inr ⟨by rfl, rfl⟩) (by assumption) ?_
            try simp only [Act.put, List.setIfInBounds_toArray, List.set_cons_zero, List.set_cons_succ, List.getElem_toArray, List.getElem_cons_zero, List.getElem_cons_succ]
            refine wpAnyH_take (i := 34) (v := undef) rfl (by kernel_rfl) (by kernel_rfl) (by kernel_rfl) (fun _ _ _ h => h) (Or.inr ⟨by rfl, rfl⟩) (by assumption) ?_
            try simp only [Act.put, List.setIfInBounds_toArray, List.set_cons_zero, List.set_cons_succ, List.getElem_toArray, List.getElem_cons_zero, List.getElem_cons_succ]
            refine wpAnyH_take (i := 35) (v := ?_) rfl (by kernel_rfl) (by kernel_rfl) (by kernel_rfl) (fun _ _ _ h => h) (Or.inl ⟨by rfl, fun w hSw => by (try dsimp only at hSw); go_simp; (try with_reducible rfl)⟩) (by assumption) ?_
            try simp only [Act.put, List.setIfInBounds_toArray, List.set_cons_zero, List.set_cons_succ, List.getElem_toArray, List.getElem_cons_zero, List.getElem_cons_succ]
            refine wpAnyH_take (i := 36) (v := ?_) rfl (by kernel_rfl) (by kernel_rfl) (by kernel_rfl) (fun _ _ _ h => h) (Or.inl ⟨by rfl, fun w hSw => by (try dsimp only at hSw); go_simp; (try with_reducible rfl)⟩) (by assumption) ?_
            try simp only [Act.put, List.setIfInBounds_toArray, List.set_cons_zero, List.set_cons_succ, List.getElem_toArray, List.getElem_cons_zero, List.getElem_cons_succ]
            refine wpAnyH_take (i := 37) (v := ?_) rfl (by kernel_rfl) (by kernel_rfl) (by kernel_rfl) (fun _ _ _ h => h) (Or.inl ⟨by rfl, fun w hSw => by (try dsimp only at hSw); go_simp; (try with_reducible rfl)⟩) (by assumption) ?_
            try simp only [Act.put, List.setIfInBounds_toArray, List.set_cons_zero, List.set_cons_succ, List.getElem_toArray, List.getElem_cons_zero, List.getElem_cons_succ]
            refine wpAnyH_done (by kernel_rfl) ?_ _
            replace RC := Lib.hid (RC2.out.below (step_drew _))
            replace XV := Lib.hid (XV2.out.below (step_drew _))
            have hbd := HBX.out.drew
            replace RZ := Lib.hid (RZ.out.below hbd)
            replace MT := Lib.hid (MT.out.mono hbd)
            replace BW := Lib.hid (BW.out.trans (hbd.mono BW.out.size))
            clear RC2 XV2 r0 r1 x0 x1 HBX HLO hbd c0 c1 hgl hHeld TH
            have hz4 := size2
            generalize World.drew _ = wd at RC XV RZ MT BW ⊢
            have hb5 := step_alloc wd (.cells #[] 71)
            have O0 : Hid ((wd.alloc (.cells #[] 71)).ownsRow wd.heap.size 71 2 (.slice (some ⟨wd.heap.size, 0, none⟩) 0 0) ([] : List Tok).length (flat [])) := Lib.hid (World.ownsRow_made wd _ 0 (Nat.le_refl _) (by unfold maxLen; omega) rfl)
            have HWd := Lib.hid hb5
            have hzd : wd.heap.size ≤ (wd.alloc (.cells #[] 71)).heap.size := hb5.size
            obtain ⟨ra0, ra1, _⟩ := (RC.out.below hb5).c2
            obtain ⟨xa0, xa1, _⟩ := (XV.out.below hb5).c2
            clear hb5
            have tok1 : True := trivial
            have tok2 : True := trivial
            have tok3 : True := trivial
            have hkl : (l.take k).length = k := by rw [List.length_take]; have := HLen.out; omega
            have hdl : (l.drop k).length = len - k := by rw [List.length_drop]; have := HLen.out; omega
            have hkc : (k : Int) ≤ (cap : Int) := by omega
            have hck : ¬ cap = k := by omega
            have HLL := Lib.hid (show l.take k ++ [(xh, ((u : Int) + 1))] ++ l.drop k = tins l (xh, ((u : Int) + 1)) by unfold tins; rw [← HP.out]; simp)
            go_wp2_with (first | (at_builtin; have _t := tok1; refine wpList_append_toks _ rfl _ _ rfl wd.heap.size _ [] (l.take k) (by rfl) g 0 k cap hkl (by rfl) O0.out (marks_take k (MT.out.mono (step_alloc wd (.cells #[] 71)))) (by have := HLen.out; simp; omega) hzd ?_; intro v1 w4 ho4 hb4; clear tok1; rw [List.nil_append] at ho4; have O1 := Lib.hid ho4; have HW4 := Lib.hid (HWd.out.trans hb4); have hz4 : wd.heap.size ≤ w4.heap.size := HW4.out.size; clear ho4 hb4 O0; obtain ⟨e0, e1, _⟩ := (XV.out.below HW4.out).c2; have r4 := ((RC.out.below HW4.out).c2).2.1) | (at_builtin; have _t := tok2; refine wpList_append_tok w4 rfl _ _ rfl wd.heap.size _ (l.take k) (xh, ((u : Int) + 1)) (by rfl) w4.heap.size (by first | rfl | simp) (by first | rfl | simp) O1.out (by first | (rw [hkl]; omega) | simp) hz4 ?_; intro v2 w5 ho5 hb5; clear tok2; have O2 := Lib.hid ho5; have HW5 := Lib.hid (HW4.out.trans hb5); have hz5 : wd.heap.size ≤ w5.heap.size := HW5.out.size; clear ho5 hb5; have r5 := ((RC.out.below HW5.out).c2).2.1) | (at_builtin; have _t := tok3; refine wpList_append_toks _ rfl _ _ rfl wd.heap.size _ (l.take k ++ [(xh, ((u : Int) + 1))]) (l.drop k) (by rfl) g (k * 2) (len - k) (cap - k) hdl (by rfl) O2.out (marks_drop0 k (MT.out.mono HW5.out)) (by have := HLen.out; simp; omega) hz5 ?_; intro v3 w6 ho6 hb6; clear tok3; rw [HLL.out] at ho6; generalize tins l (xh, ((u : Int) + 1)) = L6 at ho6 HS; have O3 := Lib.hid ho6; have HW6 := Lib.hid (HW5.out.trans hb6); clear ho6 hb6; obtain ⟨qa, qc, rfl, hh2, ho2⟩ := own_headT O3.out; obtain ⟨s0, s1, u0, u1⟩ := (RC.out.below HW6.out).c2))
            go_roundw
            case rel =>
              have hset := (RC.out.below HW6.out).set 1 (by simp) (.slice (qa) L6.length qc)
              have hwi := one_store w6 (w.heap.size + 1) 1 (.slice (qa) L6.length qc)
              have hz9 : wd.heap.size ≤ w6.heap.size := HW6.out.size
              have hrl := RC.out.lt
              refine ⟨j + 1, by omega, by go_num, qa, qc, ?_, ?_, ?_, ?_, ?_⟩
              · rw [← HS.out]; exact hset
              · exact (RZ.out.below HW6.out).within hwi (by omega)
              · rw [← HS.out]; exact hh2
              · rw [← HS.out]
                exact (ho2.same (hwi.same (Nat.le_refl _) (by omega))).wide (by omega) hwi.size
              · exact (BW.out.trans (HW6.out.mono BW.out.size)).trans (hwi.below (by omega) (Nat.le_trans BW.out.size HW6.out.size))
            case measure => go_light; simp [intOf]; omega
          · obtain rfl : yh = xh := by omega
            have hn2 : ¬ yn < ((u : Int) + 1) := by omega
            have hn3 : decide (yn < ((u : Int) + 1)) = false := by simp; omega
            go_wp2_with fail
            refine wp_region_held_drew (S := fun w' => w'.cell? ⟨w.heap.size + 1, 1, none⟩ = some (.slice (some ⟨g, 0, none⟩) len cap) ∧ w'.cell? ⟨g, k * 2, none⟩ = some (.int .i64 yh) ∧ w'.cell? ⟨g, k * 2 + 1, none⟩ = some (.int .i64 yn) ∧ w'.cell? ⟨xb, 0, none⟩ = some (.int .i64 yh) ∧ w'.cell? ⟨xb, 1, none⟩ = some (.int .i64 ((u : Int) + 1))) (by kernel_rfl) (by first | exact ⟨r1, c0, c1, x0, x1⟩ | assumption) (fun hHeld => ?_)
            refine wpAnyH_take (i := 0) (v := ?_) rfl (by kernel_rfl) (by kernel_rfl) (by kernel_rfl) (fun _ _ _ h => h) (Or.inl ⟨by rfl, fun w hSw => by (try dsimp only at hSw); go_simp; (try with_reducible rfl)⟩) (by assumption) ?_
            try simp only [Act.put, List.setIfInBounds_toArray, List.set_cons_zero, List.set_cons_succ, List.getElem_toArray, List.getElem_cons_zero, List.getElem_cons_succ]
            refine wpAnyH_take (i := 1) (v := ?_) rfl (by kernel_rfl) (by kernel_rfl) (by kernel_rfl) (fun _ _ _ h => h) (Or.inl ⟨by rfl, fun w hSw => by (try dsimp only at hSw); go_simp; (try with_reducible rfl)⟩) (by assumption) ?_
            try simp only [Act.put, List.setIfInBounds_toArray, List.set_cons_zero, List.set_cons_succ, List.getElem_toArray, List.getElem_cons_zero, List.getElem_cons_succ]
            refine wpAnyH_take (i := 2) (v := ?_) rfl (by kernel_rfl) (by kernel_rfl) (by kernel_rfl) (fun _ _ _ h => h) (Or.inl ⟨by rfl, fun w hSw => by (try dsimp only at hSw); go_simp; (try with_reducible rfl)⟩) (by assumption) ?_
            try simp only [Act.put, List.setIfInBounds_toArray, List.set_cons_zero, List.set_cons_succ, List.getElem_toArray, List.getElem_cons_zero, List.getElem_cons_succ]
            refine wpAnyH_take (i := 3) (v := ?_) rfl (by kernel_rfl) (by kernel_rfl) (by kernel_rfl) (fun _ _ _ h => h) (Or.inl ⟨by rfl, fun w hSw => by (try dsimp only at hSw); go_simp; (try with_reducible rfl)⟩) (by assumption) ?_
            try simp only [Act.put, List.setIfInBounds_toArray, List.set_cons_zero, List.set_cons_succ, List.getElem_toArray, List.getElem_cons_zero, List.getElem_cons_succ]
            refine wpAnyH_take (i := 4) (v := ?_) rfl (by kernel_rfl) (by kernel_rfl) (by kernel_rfl) (fun _ _ _ h => h) (Or.inl ⟨by rfl, fun w hSw => by (try dsimp only at hSw); go_simp; (try with_reducible rfl)⟩) (by assumption) ?_
            try simp only [Act.put, List.setIfInBounds_toArray, List.set_cons_zero, List.set_cons_succ, List.getElem_toArray, List.getElem_cons_zero, List.getElem_cons_succ]
            refine wpAnyH_take (i := 5) (v := ?_) rfl (by kernel_rfl) (by kernel_rfl) (by kernel_rfl) (fun _ _ _ h => h) (Or.inl ⟨by rfl, fun w hSw => by (try dsimp only at hSw); go_simp; (try with_reducible rfl)⟩) (by assumption) ?_
            try simp only [Act.put, List.setIfInBounds_toArray, List.set_cons_zero, List.set_cons_succ, List.getElem_toArray, List.getElem_cons_zero, List.getElem_cons_succ]
            refine wpAnyH_take (i := 6) (v := ?_) rfl (by kernel_rfl) (by kernel_rfl) (by kernel_rfl) (fun _ _ _ h => h) (Or.inl ⟨by rfl, fun w hSw => by (try dsimp only at hSw); go_simp; (try with_reducible rfl)⟩) (by assumption) ?_
            try simp only [Act.put, List.setIfInBounds_toArray, List.set_cons_zero, List.set_cons_succ, List.getElem_toArray, List.getElem_cons_zero, List.getElem_cons_succ]
            refine wpAnyH_take (i := 7) (v := ?_) rfl (by kernel_rfl) (by kernel_rfl) (by kernel_rfl) (fun _ _ _ h => h) (Or.inl ⟨by rfl, fun w hSw => by (try dsimp only at hSw); go_simp; (try with_reducible rfl)⟩) (by assumption) ?_
            try simp only [Act.put, List.setIfInBounds_toArray, List.set_cons_zero, List.set_cons_succ, List.getElem_toArray, List.getElem_cons_zero, List.getElem_cons_succ]
            refine wpAnyH_take (i := 8) (v := ?_) rfl (by kernel_rfl) (by kernel_rfl) (by kernel_rfl) (fun _ _ _ h => h) (Or.inl ⟨by rfl, fun w hSw => by (try dsimp only at hSw); go_simp; (try with_reducible rfl)⟩) (by assumption) ?_
            try simp only [Act.put, List.setIfInBounds_toArray, List.set_cons_zero, List.set_cons_succ, List.getElem_toArray, List.getElem_cons_zero, List.getElem_cons_succ]
            refine wpAnyH_take (i := 9) (v := ?_) rfl (by kernel_rfl) (by kernel_rfl) (by kernel_rfl) (fun _ _ _ h => h) (Or.inl ⟨by rfl, fun w hSw => by (try dsimp only at hSw); go_simp; (try with_reducible rfl)⟩) (by assumption) ?_
            try simp only [Act.put, List.setIfInBounds_toArray, List.set_cons_zero, List.set_cons_succ, List.getElem_toArray, List.getElem_cons_zero, List.getElem_cons_succ]
            refine wpAnyH_take (i := 10) (v := ?_) rfl (by kernel_rfl) (by kernel_rfl) (by kernel_rfl) (fun _ _ _ h => h) (Or.inl ⟨by rfl, fun w hSw => by (try dsimp only at hSw); go_simp; (try with_reducible rfl)⟩) (by assumption) ?_
            try simp only [Act.put, List.setIfInBounds_toArray, List.set_cons_zero, List.set_cons_succ, List.getElem_toArray, List.getElem_cons_zero, List.getElem_cons_succ]
            refine wpAnyH_take (i := 11) (v := ?_) rfl (by kernel_rfl) (by kernel_rfl) (by kernel_rfl) (fun _ _ _ h => h) (Or.inl ⟨by rfl, fun w hSw => by (try dsimp only at hSw); go_simp; (try with_reducible rfl)⟩) (by assumption) ?_
            try simp only [Act.put, List.setIfInBounds_toArray, List.set_cons_zero, List.set_cons_succ, List.getElem_toArray, List.getElem_cons_zero, List.getElem_cons_succ]
            refine wpAnyH_take (i := 12) (v := ?_) rfl (by kernel_rfl) (by kernel_rfl) (by kernel_rfl) (fun _ _ _ h => h) (Or.inl ⟨by rfl, fun w hSw => by (try dsimp only at hSw); go_simp; (try with_reducible rfl)⟩) (by assumption) ?_
            try simp only [Act.put, List.setIfInBounds_toArray, List.set_cons_zero, List.set_cons_succ, List.getElem_toArray, List.getElem_cons_zero, List.getElem_cons_succ]
            refine wpAnyH_take (i := 13) (v := ?_) rfl (by kernel_rfl) (by kernel_rfl) (by kernel_rfl) (fun _ _ _ h => h) (Or.inl ⟨by rfl, fun w hSw => by (try dsimp only at hSw); go_simp; (try with_reducible rfl)⟩) (by assumption) ?_
            try simp only [Act.put, List.setIfInBounds_toArray, List.set_cons_zero, List.set_cons_succ, List.getElem_toArray, List.getElem_cons_zero, List.getElem_cons_succ]
            refine wpAnyH_take (i := 14) (v := ?_) rfl (by kernel_rfl) (by kernel_rfl) (by kernel_rfl) (fun _ _ _ h => h) (Or.inl ⟨by rfl, fun w hSw => by (try dsimp only at hSw); go_simp; (try with_reducible rfl)⟩) (by assumption) ?_
            try simp only [Act.put, List.setIfInBounds_toArray, List.set_cons_zero, List.set_cons_succ, List.getElem_toArray, List.getElem_cons_zero, List.getElem_cons_succ]
            refine wpAnyH_take (i := 15) (v := ?_) rfl (by kernel_rfl) (by kernel_rfl) (by kernel_rfl) (fun _ _ _ h => h) (Or.inl ⟨by rfl, fun w hSw => by (try dsimp only at hSw); go_simp; (try with_reducible rfl)⟩) (by assumption) ?_
            try simp only [Act.put, List.setIfInBounds_toArray, List.set_cons_zero, List.set_cons_succ, List.getElem_toArray, List.getElem_cons_zero, List.getElem_cons_succ]
            refine wpAnyH_take (i := 16) (v := ?_) rfl (by kernel_rfl) (by kernel_rfl) (by kernel_rfl) (fun _ _ _ h => h) (Or.inl ⟨by rfl, fun w hSw => by (try dsimp only at hSw); go_simp; (try with_reducible rfl)⟩) (by assumption) ?_
            try simp only [Act.put, List.setIfInBounds_toArray, List.set_cons_zero, List.set_cons_succ, List.getElem_toArray, List.getElem_cons_zero, List.getElem_cons_succ]
            refine wpAnyH_take (i := 17) (v := ?_) rfl (by kernel_rfl) (by kernel_rfl) (by kernel_rfl) (fun _ _ _ h => h) (Or.inl ⟨by rfl, fun w hSw => by (try dsimp only at hSw); go_simp; (try with_reducible rfl)⟩) (by assumption) ?_
            try simp only [Act.put, List.setIfInBounds_toArray, List.set_cons_zero, List.set_cons_succ, List.getElem_toArray, List.getElem_cons_zero, List.getElem_cons_succ]
            refine wpAnyH_take (i := 18) (v := ?_) rfl (by kernel_rfl) (by kernel_rfl) (by kernel_rfl) (fun _ _ _ h => h) (Or.inl ⟨by rfl, fun w hSw => by (try dsimp only at hSw); go_simp; (try with_reducible rfl)⟩) (by assumption) ?_
            try simp only [Act.put, List.setIfInBounds_toArray, List.set_cons_zero, List.set_cons_succ, List.getElem_toArray, List.getElem_cons_zero, List.getElem_cons_succ]
            refine wpAnyH_take (i := 19) (v := ?_) rfl (by kernel_rfl) (by kernel_rfl) (by kernel_rfl) (fun _ _ _ h => h) (Or.inl ⟨by rfl, fun w hSw => by (try dsimp only at hSw); go_simp; (try with_reducible rfl)⟩) (by assumption) ?_
            try simp only [Act.put, List.setIfInBounds_toArray, List.set_cons_zero, List.set_cons_succ, List.getElem_toArray, List.getElem_cons_zero, List.getElem_cons_succ]
            refine wpAnyH_take (i := 20) (v := ?_) rfl (by kernel_rfl) (by kernel_rfl) (by kernel_rfl) (fun _ _ _ h => h) (Or.inl ⟨by rfl, fun w hSw => by (try dsimp only at hSw); go_simp; (try with_reducible rfl)⟩) (by assumption) ?_
            try simp only [Act.put, List.setIfInBounds_toArray, List.set_cons_zero, List.set_cons_succ, List.getElem_toArray, List.getElem_cons_zero, List.getElem_cons_succ]
            refine wpAnyH_take (i := 21) (v := ?_) rfl (by kernel_rfl) (by kernel_rfl) (by kernel_rfl) (fun _ _ _ h => h) (Or.inl ⟨by rfl, fun w hSw => by (try dsimp only at hSw); go_simp; (try with_reducible rfl)⟩) (by assumption) ?_
            try simp only [Act.put, List.setIfInBounds_toArray, List.set_cons_zero, List.set_cons_succ, List.getElem_toArray, List.getElem_cons_zero, List.getElem_cons_succ]
            refine wpAnyH_take (i := 22) (v := ?_) rfl (by kernel_rfl) (by kernel_rfl) (by kernel_rfl) (fun _ _ _ h => h) (Or.inl ⟨by rfl, fun w hSw => by (try dsimp only at hSw); go_simp; (try with_reducible rfl)⟩) (by assumption) ?_
            try simp only [Act.put, List.setIfInBounds_toArray, List.set_cons_zero, List.set_cons_succ, List.getElem_toArray, List.getElem_cons_zero, List.getElem_cons_succ]
            refine wpAnyH_take (i := 23) (v := ?_) rfl (by kernel_rfl) (by kernel_rfl) (by kernel_rfl) (fun _ _ _ h => h) (Or.inl ⟨by rfl, fun w hSw => by (try dsimp only at hSw); go_simp; (try with_reducible rfl)⟩) (by assumption) ?_
            try simp only [Act.put, List.setIfInBounds_toArray, List.set_cons_zero, List.set_cons_succ, List.getElem_toArray, List.getElem_cons_zero, List.getElem_cons_succ]
            refine wpAnyH_take (i := 24) (v := ?_) rfl (by kernel_rfl) (by kernel_rfl) (by kernel_rfl) (fun _ _ _ h => h) (Or.inl ⟨by rfl, fun w hSw => by (try dsimp only at hSw); go_simp; (try with_reducible rfl)⟩) (by assumption) ?_
            try simp only [Act.put, List.setIfInBounds_toArray, List.set_cons_zero, List.set_cons_succ, List.getElem_toArray, List.getElem_cons_zero, List.getElem_cons_succ]
            refine wpAnyH_take (i := 25) (v := ?_) rfl (by kernel_rfl) (by kernel_rfl) (by kernel_rfl) (fun _ _ _ h => h) (Or.inl ⟨by rfl, fun w hSw => by (try dsimp only at hSw); go_simp; (try with_reducible rfl)⟩) (by assumption) ?_
            try simp only [Act.put, List.setIfInBounds_toArray, List.set_cons_zero, List.set_cons_succ, List.getElem_toArray, List.getElem_cons_zero, List.getElem_cons_succ]
            refine wpAnyH_take (i := 26) (v := ?_) rfl (by kernel_rfl) (by kernel_rfl) (by kernel_rfl) (fun _ _ _ h => h) (Or.inl ⟨by rfl, fun w hSw => by (try dsimp only at hSw); go_simp; (try with_reducible rfl)⟩) (by assumption) ?_
            try simp only [Act.put, List.setIfInBounds_toArray, List.set_cons_zero, List.set_cons_succ, List.getElem_toArray, List.getElem_cons_zero, List.getElem_cons_succ]
            refine wpAnyH_take (i := 27) (v := ?_) rfl (by kernel_rfl) (by kernel_rfl) (by kernel_rfl) (fun _ _ _ h => h) (Or.inl ⟨by rfl, fun w hSw => by (try dsimp only at hSw); go_simp; (try with_reducible rfl)⟩) (by assumption) ?_
            try simp only [Act.put, List.setIfInBounds_toArray, List.set_cons_zero, List.set_cons_succ, List.getElem_toArray, List.getElem_cons_zero, List.getElem_cons_succ]
            refine wpAnyH_take (i := 28) (v := ?_) rfl (by kernel_rfl) (by kernel_rfl) (by kernel_rfl) (fun _ _ _ h => h) (Or.inl ⟨by rfl, fun w hSw => by (try dsimp only at hSw); go_simp; (try with_reducible rfl)⟩) (by assumption) ?_
            try simp only [Act.put, List.setIfInBounds_toArray, List.set_cons_zero, List.set_cons_succ, List.getElem_toArray, List.getElem_cons_zero, List.getElem_cons_succ]
            refine wpAnyH_take (i := 29) (v := ?_) rfl (by kernel_rfl) (by kernel_rfl) (by kernel_rfl) (fun _ _ _ h => h) (Or.inl ⟨by rfl, fun w hSw => by (try dsimp only at hSw); go_simp; (try with_reducible rfl)⟩) (by assumption) ?_
            try simp only [Act.put, List.setIfInBounds_toArray, List.set_cons_zero, List.set_cons_succ, List.getElem_toArray, List.getElem_cons_zero, List.getElem_cons_succ]
            refine wpAnyH_take (i := 30) (v := ?_) rfl (by kernel_rfl) (by kernel_rfl) (by kernel_rfl) (fun _ _ _ h => h) (Or.inl ⟨by rfl, fun w hSw => by (try dsimp only at hSw); go_simp; (try with_reducible rfl)⟩) (by assumption) ?_
            try simp only [Act.put, List.setIfInBounds_toArray, List.set_cons_zero, List.set_cons_succ, List.getElem_toArray, List.getElem_cons_zero, List.getElem_cons_succ]
            refine wpAnyH_take (i := 31) (v := ?_) rfl (by kernel_rfl) (by kernel_rfl) (by kernel_rfl) (fun _ _ _ h => h) (Or.inl ⟨by rfl, fun w hSw => by (try dsimp only at hSw); go_simp; (try with_reducible rfl)⟩) (by assumption) ?_
            try simp only [Act.put, List.setIfInBounds_toArray, List.set_cons_zero, List.set_cons_succ, List.getElem_toArray, List.getElem_cons_zero, List.getElem_cons_succ]
            refine wpAnyH_take (i := 32) (v := ?_) rfl (by kernel_rfl) (by kernel_rfl) (by kernel_rfl) (fun _ _ _ h => h) (Or.inl ⟨by rfl, fun w hSw => by (try dsimp only at hSw); go_simp; (try with_reducible rfl)⟩) (by assumption) ?_
            try simp only [Act.put, List.setIfInBounds_toArray, List.set_cons_zero, List.set_cons_succ, List.getElem_toArray, List.getElem_cons_zero, List.getElem_cons_succ]
            refine wpAnyH_take (i := 33) (v := ?_) rfl (by kernel_rfl) (by kernel_rfl) (by kernel_rfl) (fun _ _ _ h => h) (Or.inl ⟨by rfl, fun w hSw => by (try dsimp only at hSw); go_simp; (try with_reducible rfl)⟩) (by assumption) ?_
            try simp only [Act.put, List.setIfInBounds_toArray, List.set_cons_zero, List.set_cons_succ, List.getElem_toArray, List.getElem_cons_zero, List.getElem_cons_succ]
            refine wpAnyH_take (i := 34) (v := ?_) rfl (by kernel_rfl) (by kernel_rfl) (by kernel_rfl) (fun _ _ _ h => h) (Or.inl ⟨by rfl, fun w hSw => by (try dsimp only at hSw); go_simp; (try with_reducible rfl)⟩) (by assumption) ?_
            try simp only [Act.put, List.setIfInBounds_toArray, List.set_cons_zero, List.set_cons_succ, List.getElem_toArray, List.getElem_cons_zero, List.getElem_cons_succ]
            refine wpAnyH_take (i := 35) (v := ?_) rfl (by kernel_rfl) (by kernel_rfl) (by kernel_rfl) (fun _ _ _ h => h) (Or.inl ⟨by rfl, fun w hSw => by (try dsimp only at hSw); go_simp; (try with_reducible rfl)⟩) (by assumption) ?_
            try simp only [Act.put, List.setIfInBounds_toArray, List.set_cons_zero, List.set_cons_succ, List.getElem_toArray, List.getElem_cons_zero, List.getElem_cons_succ]
            refine wpAnyH_take (i := 36) (v := ?_) rfl (by kernel_rfl) (by kernel_rfl) (by kernel_rfl) (fun _ _ _ h => h) (Or.inl ⟨by rfl, fun w hSw => by (try dsimp only at hSw); go_simp; (try with_reducible rfl)⟩) (by assumption) ?_
            try simp only [Act.put, List.setIfInBounds_toArray, List.set_cons_zero, List.set_cons_succ, List.getElem_toArray, List.getElem_cons_zero, List.getElem_cons_succ]
            refine wpAnyH_take (i := 37) (v := ?_) rfl (by kernel_rfl) (by kernel_rfl) (by kernel_rfl) (fun _ _ _ h => h) (Or.inl ⟨by rfl, fun w hSw => by (try dsimp only at hSw); go_simp; (try with_reducible rfl)⟩) (by assumption) ?_
            try simp only [Act.put, List.setIfInBounds_toArray, List.set_cons_zero, List.set_cons_succ, List.getElem_toArray, List.getElem_cons_zero, List.getElem_cons_succ]
            refine wpAnyH_done (by kernel_rfl) ?_ _
            replace RC := Lib.hid (RC2.out.below (step_drew _))
            replace XV := Lib.hid (XV2.out.below (step_drew _))
            have hbd := HBX.out.drew
            replace RZ := Lib.hid (RZ.out.below hbd)
            replace MT := Lib.hid (MT.out.mono hbd)
            replace BW := Lib.hid (BW.out.trans (hbd.mono BW.out.size))
            clear RC2 XV2 r0 r1 x0 x1 HBX HLO hbd c0 c1 hgl hHeld TH
            have hz4 := size2
            generalize World.drew _ = wd at RC XV RZ MT BW ⊢
            have hb5 := step_alloc wd (.cells #[] 71)
            have O0 : Hid ((wd.alloc (.cells #[] 71)).ownsRow wd.heap.size 71 2 (.slice (some ⟨wd.heap.size, 0, none⟩) 0 0) ([] : List Tok).length (flat [])) := Lib.hid (World.ownsRow_made wd _ 0 (Nat.le_refl _) (by unfold maxLen; omega) rfl)
            have HWd := Lib.hid hb5
            have hzd : wd.heap.size ≤ (wd.alloc (.cells #[] 71)).heap.size := hb5.size
            obtain ⟨ra0, ra1, _⟩ := (RC.out.below hb5).c2
            obtain ⟨xa0, xa1, _⟩ := (XV.out.below hb5).c2
            clear hb5
            have tok1 : True := trivial
            have tok2 : True := trivial
            have tok3 : True := trivial
            have hkl : (l.take k).length = k := by rw [List.length_take]; have := HLen.out; omega
            have hdl : (l.drop k).length = len - k := by rw [List.length_drop]; have := HLen.out; omega
            have hkc : (k : Int) ≤ (cap : Int) := by omega
            have hck : ¬ cap = k := by omega
            have HLL := Lib.hid (show l.take k ++ [(yh, ((u : Int) + 1))] ++ l.drop k = tins l (yh, ((u : Int) + 1)) by unfold tins; rw [← HP.out]; simp)
            go_wp2_with (first | (at_builtin; have _t := tok1; refine wpList_append_toks _ rfl _ _ rfl wd.heap.size _ [] (l.take k) (by rfl) g 0 k cap hkl (by rfl) O0.out (marks_take k (MT.out.mono (step_alloc wd (.cells #[] 71)))) (by have := HLen.out; simp; omega) hzd ?_; intro v1 w4 ho4 hb4; clear tok1; rw [List.nil_append] at ho4; have O1 := Lib.hid ho4; have HW4 := Lib.hid (HWd.out.trans hb4); have hz4 : wd.heap.size ≤ w4.heap.size := HW4.out.size; clear ho4 hb4 O0; obtain ⟨e0, e1, _⟩ := (XV.out.below HW4.out).c2; have r4 := ((RC.out.below HW4.out).c2).2.1) | (at_builtin; have _t := tok2; refine wpList_append_tok w4 rfl _ _ rfl wd.heap.size _ (l.take k) (yh, ((u : Int) + 1)) (by rfl) w4.heap.size (by first | rfl | simp) (by first | rfl | simp) O1.out (by first | (rw [hkl]; omega) | simp) hz4 ?_; intro v2 w5 ho5 hb5; clear tok2; have O2 := Lib.hid ho5; have HW5 := Lib.hid (HW4.out.trans hb5); have hz5 : wd.heap.size ≤ w5.heap.size := HW5.out.size; clear ho5 hb5; have r5 := ((RC.out.below HW5.out).c2).2.1) | (at_builtin; have _t := tok3; refine wpList_append_toks _ rfl _ _ rfl wd.heap.size _ (l.take k ++ [(yh, ((u : Int) + 1))]) (l.drop k) (by rfl) g (k * 2) (len - k) (cap - k) hdl (by rfl) O2.out (marks_drop0 k (MT.out.mono HW5.out)) (by have := HLen.out; simp; omega) hz5 ?_; intro v3 w6 ho6 hb6; clear tok3; rw [HLL.out] at ho6; generalize tins l (yh, ((u : Int) + 1)) = L6 at ho6 HS; have O3 := Lib.hid ho6; have HW6 := Lib.hid (HW5.out.trans hb6); clear ho6 hb6; obtain ⟨qa, qc, rfl, hh2, ho2⟩ := own_headT O3.out; obtain ⟨s0, s1, u0, u1⟩ := (RC.out.below HW6.out).c2))
            go_roundw
            case rel =>
              have hset := (RC.out.below HW6.out).set 1 (by simp) (.slice (qa) L6.length qc)
              have hwi := one_store w6 (w.heap.size + 1) 1 (.slice (qa) L6.length qc)
              have hz9 : wd.heap.size ≤ w6.heap.size := HW6.out.size
              have hrl := RC.out.lt
              refine ⟨j + 1, by omega, by go_num, qa, qc, ?_, ?_, ?_, ?_, ?_⟩
              · rw [← HS.out]; exact hset
              · exact (RZ.out.below HW6.out).within hwi (by omega)
              · rw [← HS.out]; exact hh2
              · rw [← HS.out]
                exact (ho2.same (hwi.same (Nat.le_refl _) (by omega))).wide (by omega) hwi.size
              · exact (BW.out.trans (HW6.out.mono BW.out.size)).trans (hwi.below (by omega) (Nat.le_trans BW.out.size HW6.out.size))
            case measure => go_light; simp [intOf]; omega

end Go.Proofs.YteibkoaepgdmlaaDoor.Rg
