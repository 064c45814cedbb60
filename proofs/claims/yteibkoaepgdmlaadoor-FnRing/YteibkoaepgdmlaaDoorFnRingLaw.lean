/- FnRing over its contracts, for two codes of at most 1048576 bytes. No other condition. -/
import Derived.Deep.DeepCutAuto
import Derived.Test.YteibkoaepgdmlaaDoorDrawRing3
import Derived.Test.YteibkoaepgdmlaaDoorRingLw
import Derived.Test.YteibkoaepgdmlaaDoorRingMath2
import Derived.Test.YteibkoaepgdmlaaDoorRingNewS
import Derived.Test.YteibkoaepgdmlaaDoorRingRightI
import Derived.Test.YteibkoaepgdmlaaDoorRingRightS
import Derived.Test.YteibkoaepgdmlaaDoorOrderI
import Derived.Test.YteibkoaepgdmlaaDoorOrderS
import Derived.Test.YteibkoaepgdmlaaDoorOwners
import Derived.Test.YteibkoaepgdmlaaDoorStandI
import Derived.Test.YteibkoaepgdmlaaDoorFnv
set_option linter.unusedSimpArgs false
set_option linter.unusedVariables false
namespace Go.Proofs.YteibkoaepgdmlaaDoor.Rg
open Go.RowKit Go.Proofs.YteibkoaepgdmlaaDoor.Mk Go.Proofs.YteibkoaepgdmlaaDoor.Rw Go.Proofs.YteibkoaepgdmlaaDoor.Tk Go.Proofs.YteibkoaepgdmlaaDoor.Dr Go.Proofs.YteibkoaepgdmlaaDoor.Iz Go.Proofs.YteibkoaepgdmlaaDoor.Fv

theorem code_below {w w' : World} {a : Option Addr} {n : Nat} (h : Mk.Code w a n) (hb : Below w.heap.size w w') : Mk.Code w' a n := ⟨h.1, (h.2.below hb).mono hb.size⟩
end Go.Proofs.YteibkoaepgdmlaaDoor.Rg
namespace Go.Proofs.YteibkoaepgdmlaaDoor.Mk
theorem Code.below {w w' : World} {a : Option Addr} {n : Nat} (h : Code w a n) (hb : RowKit.Below w.heap.size w w') : Code w' a n := Rg.code_below h hb
end Go.Proofs.YteibkoaepgdmlaaDoor.Mk
namespace Go.Proofs.YteibkoaepgdmlaaDoor.Rg
open Go.RowKit Go.Proofs.YteibkoaepgdmlaaDoor.Mk Go.Proofs.YteibkoaepgdmlaaDoor.Rw Go.Proofs.YteibkoaepgdmlaaDoor.Tk Go.Proofs.YteibkoaepgdmlaaDoor.Dr Go.Proofs.YteibkoaepgdmlaaDoor.Iz Go.Proofs.YteibkoaepgdmlaaDoor.Fv

theorem standV_right (n : Int) (l : List Tok) (key : ByteArray) (k : Int) (d : List Int) : (standV n l key k d).Nodup ∧ ∀ x ∈ standV n l key k d, x ∉ d := by
  unfold standV
  split
  · exact standL_right d _ _ (orderV_nodup n l key)
  · exact ⟨List.nodup_nil, fun x hx => by cases hx⟩
theorem nodup_ne {l : List Int} (h : l.Nodup) {i j : Nat} (hi : i < l.length) (hj : j < l.length) (hij : i < j) : l[i] ≠ l[j] := List.pairwise_iff_getElem.1 h i j hi hj hij
theorem stand_ne {s d : List Int} (h : ∀ x ∈ s, x ∉ d) {i j : Nat} (hj : j < d.length) (hi : i < s.length) : d[j] ≠ s[i] := fun e => h _ (List.getElem_mem hi) (e ▸ List.getElem_mem hj)
theorem zcells {w : World} {a : Option Addr} {l : List Int} (h : RowAt 1 zenc w a l) {i j : Nat} (hi : i < l.length) (hj : j < l.length) : ∃ g off, a = some ⟨g, off, none⟩ ∧ w.cell? ⟨g, off + i, none⟩ = some (.int .i64 l[i]) ∧ w.cell? ⟨g, off + j, none⟩ = some (.int .i64 l[j]) := by
  obtain ⟨g, off, ha, _, c⟩ := zcell h hi
  obtain ⟨g', off', ha', _, c'⟩ := zcell h hj
  rw [ha] at ha'
  injection ha' with e
  injection e with e1 e2
  subst e1 e2
  exact ⟨g, off, ha, c, c'⟩
theorem row_take {w : World} {a : Option Addr} {l : List Int} (k : Nat) (h : RowAt 1 zenc w a l) : RowAt 1 zenc w a (l.take k) := by
  rcases h with h | ⟨g, off, ha, hc⟩
  · subst h; exact .inl (by simp)
  · refine .inr ⟨g, off, ha, fun i hi j hj => ?_⟩
    have hi' : i < l.length := by rw [List.length_take] at hi; omega
    have := hc i hi' j hj
    rwa [List.getElem_take]
/-- a right ring and a right key: as many as there are nodes, the first owner is the first of them -/
theorem first_one {n : Int} {l : List Tok} {key : ByteArray} (h : ringB n l = true) (hk : Nm.nameB key = true) : ((orderV n l key).length : Int) = n ∧ 1 ≤ (orderV n l key).length ∧ ownersV n l key 1 = (orderV n l key).take 1 := by
  have e : orderV n l key = orderL l ((fnvN key.data.toList : Nat) : Int) := orderO_yes h hk
  have h1 := order_len ((fnvN key.data.toList : Nat) : Int) h
  have h2 := (ringB_all h).1
  rw [← e] at h1
  exact ⟨h1, by omega, ownersV_yes rfl⟩
theorem cap_one {a : Option Addr} {n cap : Nat} (h : ZHead a n cap) (h1 : 1 ≤ n) : 1 ≤ cap := by
  rcases h with ⟨_, h, _⟩ | ⟨_, _, h, _⟩ <;> omega
theorem lw_first (n : Int) (l : List Tok) (oa a : Option Addr) (oc cap : Nat) (key : ByteArray) (w : World) (h : ((orderV n l key).length : Int) = n ∧ 1 ≤ (orderV n l key).length ∧ ownersV n l key 1 = (orderV n l key).take 1) (h1 : RowAt 1 zenc w oa (ownersV n l key 1)) (h2 : RowAt 1 zenc w a (orderV n l key)) :
    Calls Tryd.prog 19 #[.slice oa (ownersV n l key 1).length oc, .slice a 1 cap] w fun e w' => e = .returned (.bool true) ∧ Below w.heap.size w w' := by
  have e : (ownersV n l key 1).length = 1 := by rw [h.2.2, List.length_take]; omega
  have := lw_nums oa a oc cap (ownersV n l key 1) w (by unfold maxLen; omega) h1 (by rw [h.2.2]; exact row_take 1 h2)
  rwa [e] at this ⊢

set_option maxRecDepth 100000 in
set_option maxHeartbeats 8000000 in
theorem law_FnRing (a0 a1 : Option Addr) (n0 c0 n1 c1 : Nat) (w : World) (h0 : Mk.Code w a0 n0) (h1 : Mk.Code w a1 n1) :
    Calls Tryd.prog 3 #[.slice a0 n0 c0, .slice a1 n1 c1] w fun e w' => e = .returned (.bool true) ∧ Below w.heap.size w w' := by
  have d0 : decide (1048576 < (n0 : Int)) = false := by have := h0.1; simp; omega
  have d1 : decide (1048576 < (n1 : Int)) = false := by have := h1.1; simp; omega
  have K0 := Lib.hid h0
  have K1 := Lib.hid h1
  clear h0 h1
  have B := Lib.hid (show Base w w from Below.refl _ _)
  go_enter Tryd.func3, Tryd.ntmps3
  go_wp2_with fail
  refine (drawRingNew _ a0 n0 c0 K0.out).mono ?_
  rintro e wx3 ⟨nn1, nv2, hnn1, hnv2, rfl, hb⟩
  replace K0 := Lib.hid (K0.out.below hb)
  replace K1 := Lib.hid (K1.out.below hb)
  replace B := Lib.hid (B.out.below hb)
  have Z4 := hb.size
  clear hb
  go_wp2_with fail
  refine (drawOrder _ a1 n1 c1 K1.out).mono ?_
  rintro e wx10 ⟨rn5, rl6, ra7, rc8, ky9, hrn5, hrl6, hky9, rfl, ho, hb⟩
  replace K0 := Lib.hid (K0.out.below hb)
  replace K1 := Lib.hid (K1.out.below hb)
  replace B := Lib.hid (B.out.below hb)
  have Z11 := hb.size
  have I12 := Lib.hid (InAt.of ho.at_)
  clear hb ho
  have hb := step_alloc wx10 (.cells #[.int .i64 (rn5), .slice ra7 (rl6).length rc8] 27)
  replace K0 := Lib.hid (K0.out.below hb)
  replace K1 := Lib.hid (K1.out.below hb)
  replace B := Lib.hid (B.out.below hb)
  replace I12 := Lib.hid (I12.out.below hb)
  clear hb
  have Z13 : wx10.heap.size < (wx10.alloc (.cells #[.int .i64 (rn5), .slice ra7 (rl6).length rc8] 27)).heap.size := by simp
  have yZ13 : (wx10.alloc (.cells #[.int .i64 (rn5), .slice ra7 (rl6).length rc8] 27)).heap.size ≤ wx10.heap.size + 1 := by simp
  have V14 := Lib.hid (Var2.new wx10 (.int .i64 (rn5)) (.slice ra7 (rl6).length rc8) 27)
  obtain ⟨V14_c0, V14_c1, V14_l⟩ := V14.out
  go_wp2_with fail
  clear V14_c0 V14_c1 V14_l
  refine (impl_orderH (rn5) ra7 rc8 (rl6) ky9 _ (by unfold maxLen; omega) (by unfold maxLen; omega) I12.out.at_).mono ?_
  rintro e wx17 ⟨qa15, qc16, rfl, hh, ho, hb⟩
  replace K0 := Lib.hid (K0.out.below hb)
  replace K1 := Lib.hid (K1.out.below hb)
  replace B := Lib.hid (B.out.below hb)
  replace I12 := Lib.hid (I12.out.below hb)
  replace V14 := Lib.hid (V14.out.below hb)
  have O18 := Lib.hid (show ROwnI 1 zenc wx17 (wx10.alloc (.cells #[.int .i64 (rn5), .slice ra7 (rl6).length rc8] 27)).heap.size wx17.heap.size qa15 (orderV (rn5) (rl6) ky9) from ⟨ho, Nat.le_refl _⟩)
  have Z19 := hb.size
  clear hb ho
  simp at Z19
  have HHqa15 := Lib.hid hh
  clear hh
  have bd20 := orderV_len (rn5) (rl6) ky9
  obtain ⟨V14_c0, V14_c1, V14_l⟩ := V14.out
  go_wp2_with fail
  clear V14_c0 V14_c1 V14_l
  refine (drawOwners _ a0 n0 c0 K0.out).mono ?_
  rintro e wx27 ⟨rn21, rl22, ra23, rc24, ky25, nk26, hrn21, hrl22, hky25, hnk26, rfl, ho, hb⟩
  replace K0 := Lib.hid (K0.out.below hb)
  replace K1 := Lib.hid (K1.out.below hb)
  replace B := Lib.hid (B.out.below hb)
  replace I12 := Lib.hid (I12.out.below hb)
  replace V14 := Lib.hid (V14.out.below hb)
  replace O18 := Lib.hid (O18.out.below hb)
  have Z28 := hb.size
  have I29 := Lib.hid (InAt.of ho.at_)
  clear hb ho
  have hb := step_alloc wx27 (.cells #[.int .i64 (rn21), .slice ra23 (rl22).length rc24] 27)
  replace K0 := Lib.hid (K0.out.below hb)
  replace K1 := Lib.hid (K1.out.below hb)
  replace B := Lib.hid (B.out.below hb)
  replace I12 := Lib.hid (I12.out.below hb)
  replace V14 := Lib.hid (V14.out.below hb)
  replace O18 := Lib.hid (O18.out.below hb)
  replace I29 := Lib.hid (I29.out.below hb)
  clear hb
  have Z30 : wx27.heap.size < (wx27.alloc (.cells #[.int .i64 (rn21), .slice ra23 (rl22).length rc24] 27)).heap.size := by simp
  have yZ30 : (wx27.alloc (.cells #[.int .i64 (rn21), .slice ra23 (rl22).length rc24] 27)).heap.size ≤ wx27.heap.size + 1 := by simp
  have V31 := Lib.hid (Var2.new wx27 (.int .i64 (rn21)) (.slice ra23 (rl22).length rc24) 27)
  obtain ⟨V14_c0, V14_c1, V14_l⟩ := V14.out
  obtain ⟨V31_c0, V31_c1, V31_l⟩ := V31.out
  go_wp2_with fail
  clear V14_c0 V14_c1 V14_l V31_c0 V31_c1 V31_l
  refine (drawStandIns _ a1 n1 c1 K1.out).mono ?_
  rintro e wx41 ⟨rn32, rl33, ra34, rc35, ky36, nk37, dl38, da39, dc40, hrn32, hrl33, hky36, hnk37, hdl38, rfl, ho, hod, hb⟩
  replace K0 := Lib.hid (K0.out.below hb)
  replace K1 := Lib.hid (K1.out.below hb)
  replace B := Lib.hid (B.out.below hb)
  replace I12 := Lib.hid (I12.out.below hb)
  replace V14 := Lib.hid (V14.out.below hb)
  replace O18 := Lib.hid (O18.out.below hb)
  replace I29 := Lib.hid (I29.out.below hb)
  replace V31 := Lib.hid (V31.out.below hb)
  have Z42 := hb.size
  have I43 := Lib.hid (InAt.of ho.at_)
  have D44 := Lib.hid (RIn.of (by decide) hod.at_)
  clear hb ho hod
  simp at Z42
  have hb := step_alloc wx41 (.cells #[.int .i64 (rn32), .slice ra34 (rl33).length rc35] 27)
  replace K0 := Lib.hid (K0.out.below hb)
  replace K1 := Lib.hid (K1.out.below hb)
  replace B := Lib.hid (B.out.below hb)
  replace I12 := Lib.hid (I12.out.below hb)
  replace V14 := Lib.hid (V14.out.below hb)
  replace O18 := Lib.hid (O18.out.below hb)
  replace I29 := Lib.hid (I29.out.below hb)
  replace V31 := Lib.hid (V31.out.below hb)
  replace I43 := Lib.hid (I43.out.below hb)
  replace D44 := Lib.hid (D44.out.below hb)
  clear hb
  have Z45 : wx41.heap.size < (wx41.alloc (.cells #[.int .i64 (rn32), .slice ra34 (rl33).length rc35] 27)).heap.size := by simp
  have yZ45 : (wx41.alloc (.cells #[.int .i64 (rn32), .slice ra34 (rl33).length rc35] 27)).heap.size ≤ wx41.heap.size + 1 := by simp
  have V46 := Lib.hid (Var2.new wx41 (.int .i64 (rn32)) (.slice ra34 (rl33).length rc35) 27)
  obtain ⟨V14_c0, V14_c1, V14_l⟩ := V14.out
  obtain ⟨V31_c0, V31_c1, V31_l⟩ := V31.out
  obtain ⟨V46_c0, V46_c1, V46_l⟩ := V46.out
  go_wp2_with fail
  clear V14_c0 V14_c1 V14_l V31_c0 V31_c1 V31_l V46_c0 V46_c1 V46_l
  refine (impl_standIns (rn32) ra34 rc35 (rl33) ky36 nk37 da39 dc40 (dl38) _ (by unfold maxLen; omega) (by unfold maxLen; omega) (by unfold maxLen; omega) I43.out.at_ D44.out.at_).mono ?_
  rintro e wx49 ⟨qa47, qc48, rfl, ho, hb⟩
  replace K0 := Lib.hid (K0.out.below hb)
  replace K1 := Lib.hid (K1.out.below hb)
  replace B := Lib.hid (B.out.below hb)
  replace I12 := Lib.hid (I12.out.below hb)
  replace V14 := Lib.hid (V14.out.below hb)
  replace O18 := Lib.hid (O18.out.below hb)
  replace I29 := Lib.hid (I29.out.below hb)
  replace V31 := Lib.hid (V31.out.below hb)
  replace I43 := Lib.hid (I43.out.below hb)
  replace D44 := Lib.hid (D44.out.below hb)
  replace V46 := Lib.hid (V46.out.below hb)
  have O50 := Lib.hid (show ROwnI 1 zenc wx49 (wx41.alloc (.cells #[.int .i64 (rn32), .slice ra34 (rl33).length rc35] 27)).heap.size wx49.heap.size qa47 (standV (rn32) (rl33) ky36 nk37 (dl38)) from ⟨ho, Nat.le_refl _⟩)
  have Z51 := hb.size
  clear hb ho
  simp at Z51
  have bd52 := standV_len (rn32) (rl33) ky36 nk37 (dl38)
  obtain ⟨V14_c0, V14_c1, V14_l⟩ := V14.out
  obtain ⟨V31_c0, V31_c1, V31_l⟩ := V31.out
  obtain ⟨V46_c0, V46_c1, V46_l⟩ := V46.out
  go_wp2_with fail
  clear V14_c0 V14_c1 V14_l V31_c0 V31_c1 V31_l V46_c0 V46_c1 V46_l
  refine (drawFnv _ a0 n0 c0 K0.out).mono ?_
  rintro e wx54 ⟨du53, hdu53, rfl, hb⟩
  replace K0 := Lib.hid (K0.out.below hb)
  replace K1 := Lib.hid (K1.out.below hb)
  replace B := Lib.hid (B.out.below hb)
  replace I12 := Lib.hid (I12.out.below hb)
  replace V14 := Lib.hid (V14.out.below hb)
  replace O18 := Lib.hid (O18.out.below hb)
  replace I29 := Lib.hid (I29.out.below hb)
  replace V31 := Lib.hid (V31.out.below hb)
  replace I43 := Lib.hid (I43.out.below hb)
  replace D44 := Lib.hid (D44.out.below hb)
  replace V46 := Lib.hid (V46.out.below hb)
  replace O50 := Lib.hid (O50.out.below hb)
  have Z55 := hb.size
  clear hb
  obtain ⟨V14_c0, V14_c1, V14_l⟩ := V14.out
  obtain ⟨V31_c0, V31_c1, V31_l⟩ := V31.out
  obtain ⟨V46_c0, V46_c1, V46_l⟩ := V46.out
  go_upto_region 10 with fail
  clear V14_c0 V14_c1 V14_l V31_c0 V31_c1 V31_l V46_c0 V46_c1 V46_l
  go_cut [116] (fun s wx => s = .bool false ∧ Base wx54 wx)
  case first =>
    as_aux_lemma =>
      have D0 := Lib.hid (show Base wx54 wx54 from Below.refl _ _)
      clear K0
      clear K1
      clear B
      have bdn := newL_len (nn1 : Int) (nv2 : Int)
      try dsimp only [List.append]
      have hb := step_drew wx54
      replace I12 := Lib.hid (I12.out.below hb)
      replace V14 := Lib.hid (V14.out.below hb)
      replace O18 := Lib.hid (O18.out.below hb)
      replace I29 := Lib.hid (I29.out.below hb)
      replace V31 := Lib.hid (V31.out.below hb)
      replace I43 := Lib.hid (I43.out.below hb)
      replace D44 := Lib.hid (D44.out.below hb)
      replace V46 := Lib.hid (V46.out.below hb)
      replace O50 := Lib.hid (O50.out.below hb)
      replace D0 := Lib.hid (D0.out.below hb)
      clear hb
      refine wp_region_held_drew (S := (fun w' => w'.cell? ⟨wx10.heap.size, 0, none⟩ = some (.int .i64 (rn5)) ∧ w'.cell? ⟨wx10.heap.size, 1, none⟩ = some (.slice ra7 (rl6).length rc8) ∧ w'.cell? ⟨wx27.heap.size, 0, none⟩ = some (.int .i64 (rn21)) ∧ w'.cell? ⟨wx27.heap.size, 1, none⟩ = some (.slice ra23 (rl22).length rc24) ∧ w'.cell? ⟨wx41.heap.size, 0, none⟩ = some (.int .i64 (rn32)) ∧ w'.cell? ⟨wx41.heap.size, 1, none⟩ = some (.slice ra34 (rl33).length rc35))) (by kernel_rfl) (by exact ⟨V14.out.c0, V14.out.c1, V31.out.c0, V31.out.c1, V46.out.c0, V46.out.c1⟩) (fun hHeld => ?_)
      have Z56 : wx54.heap.size ≤ wx54.drew.heap.size := Nat.le_refl _
      generalize wx54.drew = wd57 at Z56 hHeld I12 V14 O18 I29 V31 I43 D44 V46 O50 D0 ⊢
      refine wpAnyH_take (i := 0) (v := ?_) rfl (by kernel_rfl) (by kernel_rfl) (by kernel_rfl) (fun _ _ _ h => h) (Or.inl ⟨by rfl, fun w hSw => by (try dsimp only at hSw); go_simp; (try with_reducible rfl)⟩) (by assumption) ?_
      try simp only [Act.put, List.setIfInBounds_toArray, List.set_cons_zero, List.set_cons_succ, List.getElem_toArray, List.getElem_cons_zero, List.getElem_cons_succ]
      refine wpAnyH_take (i := 1) (v := ?_) rfl (by kernel_rfl) (by kernel_rfl) (by kernel_rfl) (fun _ _ _ h => h) (Or.inl ⟨by rfl, fun w hSw => by (try dsimp only at hSw); go_simp; (try with_reducible rfl)⟩) (by assumption) ?_
      try simp only [Act.put, List.setIfInBounds_toArray, List.set_cons_zero, List.set_cons_succ, List.getElem_toArray, List.getElem_cons_zero, List.getElem_cons_succ]
      refine wpAnyH_take (i := 3) (v := ?_) rfl (by kernel_rfl) (by kernel_rfl) (by kernel_rfl) (fun _ _ _ h => h) (Or.inl ⟨by rfl, fun w hSw => by (try dsimp only at hSw); go_simp; (try with_reducible rfl)⟩) (by assumption) ?_
      try simp only [Act.put, List.setIfInBounds_toArray, List.set_cons_zero, List.set_cons_succ, List.getElem_toArray, List.getElem_cons_zero, List.getElem_cons_succ]
      refine wpAnyH_take (i := 4) (v := ?_) rfl (by kernel_rfl) (by kernel_rfl) (by kernel_rfl) (fun _ _ _ h => h) (Or.inl ⟨by rfl, fun w hSw => by (try dsimp only at hSw); go_simp; (try with_reducible rfl)⟩) (by assumption) ?_
      try simp only [Act.put, List.setIfInBounds_toArray, List.set_cons_zero, List.set_cons_succ, List.getElem_toArray, List.getElem_cons_zero, List.getElem_cons_succ]
      refine wpAnyH_ready (rs := [2]) (by kernel_rfl) (by simp) ?_
      refine AllReadyH.cons rfl (fun K hK => ?_) AllReadyH.nil
      go_simp
      refine (impl_ringNew (nn1 : Int) (nv2 : Int) _).mono ?_
      rintro e wx60 ⟨qa58, qc59, rfl, ho, hb⟩
      replace I12 := Lib.hid (I12.out.below hb)
      replace V14 := Lib.hid (V14.out.below hb)
      replace O18 := Lib.hid (O18.out.below hb)
      replace I29 := Lib.hid (I29.out.below hb)
      replace V31 := Lib.hid (V31.out.below hb)
      replace I43 := Lib.hid (I43.out.below hb)
      replace D44 := Lib.hid (D44.out.below hb)
      replace V46 := Lib.hid (V46.out.below hb)
      replace O50 := Lib.hid (O50.out.below hb)
      replace D0 := Lib.hid (D0.out.below hb)
      have O61 := Lib.hid (show OwnI wx60 wd57.heap.size wx60.heap.size qa58 (newL (nn1 : Int) (nv2 : Int)) from ⟨ho, Nat.le_refl _⟩)
      have Z62 := hb.size
      clear hb ho
      go_wp2_with fail
      refine hK.out _ _ (by exact ⟨V14.out.c0, V14.out.c1, V31.out.c0, V31.out.c1, V46.out.c0, V46.out.c1⟩) (fun hHeld => ?_)
      clear hK K
      try simp only [Act.put, List.setIfInBounds_toArray, List.set_cons_zero, List.set_cons_succ, List.getElem_toArray, List.getElem_cons_zero, List.getElem_cons_succ]
      refine wpAnyH_ready (rs := [5]) (by kernel_rfl) (by simp) ?_
      refine AllReadyH.cons rfl (fun K hK => ?_) AllReadyH.nil
      go_simp
      refine (spec_ringNew (nn1 : Int) (nv2 : Int) _).mono ?_
      rintro e wx65 ⟨qa63, qc64, rfl, ho, hb⟩
      replace I12 := Lib.hid (I12.out.below hb)
      replace V14 := Lib.hid (V14.out.below hb)
      replace O18 := Lib.hid (O18.out.below hb)
      replace I29 := Lib.hid (I29.out.below hb)
      replace V31 := Lib.hid (V31.out.below hb)
      replace I43 := Lib.hid (I43.out.below hb)
      replace D44 := Lib.hid (D44.out.below hb)
      replace V46 := Lib.hid (V46.out.below hb)
      replace O50 := Lib.hid (O50.out.below hb)
      replace D0 := Lib.hid (D0.out.below hb)
      replace O61 := Lib.hid (O61.out.below hb)
      have O66 := Lib.hid (show OwnI wx65 wx60.heap.size wx65.heap.size qa63 (newL (nn1 : Int) (nv2 : Int)) from ⟨ho, Nat.le_refl _⟩)
      have Z67 := hb.size
      clear hb ho
      go_wp2_with fail
      refine hK.out _ _ (by exact ⟨V14.out.c0, V14.out.c1, V31.out.c0, V31.out.c1, V46.out.c0, V46.out.c1⟩) (fun hHeld => ?_)
      clear hK K
      try simp only [Act.put, List.setIfInBounds_toArray, List.set_cons_zero, List.set_cons_succ, List.getElem_toArray, List.getElem_cons_zero, List.getElem_cons_succ]
      refine wpAnyH_ready (rs := [6]) (by kernel_rfl) (by simp) ?_
      refine AllReadyH.cons rfl (fun K hK => ?_) AllReadyH.nil
      go_simp
      refine (lw_ring (newN (nn1 : Int) (nv2 : Int)) (newC (nn1 : Int) (nv2 : Int)) qa58 qa63 qc59 qc64 (newL (nn1 : Int) (nv2 : Int)) _ (by unfold maxLen; omega) O61.out.at_ O66.out.at_).mono ?_
      rintro e wx68 ⟨rfl, hb⟩
      replace I12 := Lib.hid (I12.out.below hb)
      replace V14 := Lib.hid (V14.out.below hb)
      replace O18 := Lib.hid (O18.out.below hb)
      replace I29 := Lib.hid (I29.out.below hb)
      replace V31 := Lib.hid (V31.out.below hb)
      replace I43 := Lib.hid (I43.out.below hb)
      replace D44 := Lib.hid (D44.out.below hb)
      replace V46 := Lib.hid (V46.out.below hb)
      replace O50 := Lib.hid (O50.out.below hb)
      replace D0 := Lib.hid (D0.out.below hb)
      replace O61 := Lib.hid (O61.out.below hb)
      replace O66 := Lib.hid (O66.out.below hb)
      have Z69 := hb.size
      clear hb
      clear O61
      clear O66
      go_wp2_with fail
      refine hK.out _ _ (by exact ⟨V14.out.c0, V14.out.c1, V31.out.c0, V31.out.c1, V46.out.c0, V46.out.c1⟩) (fun hHeld => ?_)
      clear hK K
      try simp only [Act.put, List.setIfInBounds_toArray, List.set_cons_zero, List.set_cons_succ, List.getElem_toArray, List.getElem_cons_zero, List.getElem_cons_succ]
      refine wpAnyH_take (i := 7) (v := ?_) rfl (by kernel_rfl) (by kernel_rfl) (by kernel_rfl) (fun _ _ _ h => h) (Or.inl ⟨by rfl, fun w hSw => by (try dsimp only at hSw); go_simp; (try with_reducible rfl)⟩) (by assumption) ?_
      try simp only [Act.put, List.setIfInBounds_toArray, List.set_cons_zero, List.set_cons_succ, List.getElem_toArray, List.getElem_cons_zero, List.getElem_cons_succ]
      refine wpAnyH_take (i := 8) (v := ?_) rfl (by kernel_rfl) (by kernel_rfl) (by kernel_rfl) (fun _ _ _ h => h) (Or.inl ⟨by rfl, fun w hSw => by (try dsimp only at hSw); go_simp; (try with_reducible rfl)⟩) (by assumption) ?_
      try simp only [Act.put, List.setIfInBounds_toArray, List.set_cons_zero, List.set_cons_succ, List.getElem_toArray, List.getElem_cons_zero, List.getElem_cons_succ]
      refine wpAnyH_take (i := 9) (v := ?_) rfl (by kernel_rfl) (by kernel_rfl) (by kernel_rfl) (fun _ _ _ h => h) (Or.inl ⟨by rfl, fun w hSw => by (try dsimp only at hSw); go_simp; (try with_reducible rfl)⟩) (by assumption) ?_
      try simp only [Act.put, List.setIfInBounds_toArray, List.set_cons_zero, List.set_cons_succ, List.getElem_toArray, List.getElem_cons_zero, List.getElem_cons_succ]
      refine wpAnyH_take (i := 10) (v := ?_) rfl (by kernel_rfl) (by kernel_rfl) (by kernel_rfl) (fun _ _ _ h => h) (Or.inl ⟨by rfl, fun w hSw => by (try dsimp only at hSw); go_simp; (try with_reducible rfl)⟩) (by assumption) ?_
      try simp only [Act.put, List.setIfInBounds_toArray, List.set_cons_zero, List.set_cons_succ, List.getElem_toArray, List.getElem_cons_zero, List.getElem_cons_succ]
      refine wpAnyH_take (i := 11) (v := ?_) rfl (by kernel_rfl) (by kernel_rfl) (by kernel_rfl) (fun _ _ _ h => h) (Or.inl ⟨by rfl, fun w hSw => by (try dsimp only at hSw); go_simp; (try with_reducible rfl)⟩) (by assumption) ?_
      try simp only [Act.put, List.setIfInBounds_toArray, List.set_cons_zero, List.set_cons_succ, List.getElem_toArray, List.getElem_cons_zero, List.getElem_cons_succ]
      refine wpAnyH_ready (rs := [12]) (by kernel_rfl) (by simp) ?_
      refine AllReadyH.cons rfl (fun K hK => ?_) AllReadyH.nil
      go_simp
      refine (spec_order (rn5) ra7 rc8 (rl6) ky9 _ (by unfold maxLen; omega) (by unfold maxLen; omega) I12.out.at_).mono ?_
      rintro e wx72 ⟨qa70, qc71, rfl, ho, hb⟩
      replace I12 := Lib.hid (I12.out.below hb)
      replace V14 := Lib.hid (V14.out.below hb)
      replace O18 := Lib.hid (O18.out.below hb)
      replace I29 := Lib.hid (I29.out.below hb)
      replace V31 := Lib.hid (V31.out.below hb)
      replace I43 := Lib.hid (I43.out.below hb)
      replace D44 := Lib.hid (D44.out.below hb)
      replace V46 := Lib.hid (V46.out.below hb)
      replace O50 := Lib.hid (O50.out.below hb)
      replace D0 := Lib.hid (D0.out.below hb)
      have O73 := Lib.hid (show ROwnI 1 zenc wx72 wx68.heap.size wx72.heap.size qa70 (orderV (rn5) (rl6) ky9) from ⟨ho, Nat.le_refl _⟩)
      have Z74 := hb.size
      clear hb ho
      have bd75 := orderV_len (rn5) (rl6) ky9
      go_wp2_with fail
      refine hK.out _ _ (by exact ⟨V14.out.c0, V14.out.c1, V31.out.c0, V31.out.c1, V46.out.c0, V46.out.c1⟩) (fun hHeld => ?_)
      clear hK K
      try simp only [Act.put, List.setIfInBounds_toArray, List.set_cons_zero, List.set_cons_succ, List.getElem_toArray, List.getElem_cons_zero, List.getElem_cons_succ]
      refine wpAnyH_ready (rs := [13]) (by kernel_rfl) (by simp) ?_
      refine AllReadyH.cons rfl (fun K hK => ?_) AllReadyH.nil
      go_simp
      refine (lw_nums qa15 qa70 qc16 qc71 (orderV (rn5) (rl6) ky9) _ (by unfold maxLen; omega) O18.out.at_ O73.out.at_).mono ?_
      rintro e wx76 ⟨rfl, hb⟩
      replace I12 := Lib.hid (I12.out.below hb)
      replace V14 := Lib.hid (V14.out.below hb)
      replace O18 := Lib.hid (O18.out.below hb)
      replace I29 := Lib.hid (I29.out.below hb)
      replace V31 := Lib.hid (V31.out.below hb)
      replace I43 := Lib.hid (I43.out.below hb)
      replace D44 := Lib.hid (D44.out.below hb)
      replace V46 := Lib.hid (V46.out.below hb)
      replace O50 := Lib.hid (O50.out.below hb)
      replace D0 := Lib.hid (D0.out.below hb)
      replace O73 := Lib.hid (O73.out.below hb)
      have Z77 := hb.size
      clear hb
      clear O73
      go_wp2_with fail
      refine hK.out _ _ (by exact ⟨V14.out.c0, V14.out.c1, V31.out.c0, V31.out.c1, V46.out.c0, V46.out.c1⟩) (fun hHeld => ?_)
      clear hK K
      try simp only [Act.put, List.setIfInBounds_toArray, List.set_cons_zero, List.set_cons_succ, List.getElem_toArray, List.getElem_cons_zero, List.getElem_cons_succ]
      refine wpAnyH_take (i := 14) (v := ?_) rfl (by kernel_rfl) (by kernel_rfl) (by kernel_rfl) (fun _ _ _ h => h) (Or.inl ⟨by rfl, fun w hSw => by (try dsimp only at hSw); go_simp; (try with_reducible rfl)⟩) (by assumption) ?_
      try simp only [Act.put, List.setIfInBounds_toArray, List.set_cons_zero, List.set_cons_succ, List.getElem_toArray, List.getElem_cons_zero, List.getElem_cons_succ]
      refine wpAnyH_take (i := 15) (v := ?_) rfl (by kernel_rfl) (by kernel_rfl) (by kernel_rfl) (fun _ _ _ h => h) (Or.inl ⟨by rfl, fun w hSw => by (try dsimp only at hSw); go_simp; (try with_reducible rfl)⟩) (by assumption) ?_
      try simp only [Act.put, List.setIfInBounds_toArray, List.set_cons_zero, List.set_cons_succ, List.getElem_toArray, List.getElem_cons_zero, List.getElem_cons_succ]
      refine wpAnyH_take (i := 16) (v := ?_) rfl (by kernel_rfl) (by kernel_rfl) (by kernel_rfl) (fun _ _ _ h => h) (Or.inl ⟨by rfl, fun w hSw => by (try dsimp only at hSw); go_simp; (try with_reducible rfl)⟩) (by assumption) ?_
      try simp only [Act.put, List.setIfInBounds_toArray, List.set_cons_zero, List.set_cons_succ, List.getElem_toArray, List.getElem_cons_zero, List.getElem_cons_succ]
      refine wpAnyH_take (i := 17) (v := ?_) rfl (by kernel_rfl) (by kernel_rfl) (by kernel_rfl) (fun _ _ _ h => h) (Or.inl ⟨by rfl, fun w hSw => by (try dsimp only at hSw); go_simp; (try with_reducible rfl)⟩) (by assumption) ?_
      try simp only [Act.put, List.setIfInBounds_toArray, List.set_cons_zero, List.set_cons_succ, List.getElem_toArray, List.getElem_cons_zero, List.getElem_cons_succ]
      refine wpAnyH_take (i := 18) (v := ?_) rfl (by kernel_rfl) (by kernel_rfl) (by kernel_rfl) (fun _ _ _ h => h) (Or.inl ⟨by rfl, fun w hSw => by (try dsimp only at hSw); go_simp; (try with_reducible rfl)⟩) (by assumption) ?_
      try simp only [Act.put, List.setIfInBounds_toArray, List.set_cons_zero, List.set_cons_succ, List.getElem_toArray, List.getElem_cons_zero, List.getElem_cons_succ]
      refine wpAnyH_take (i := 19) (v := ?_) rfl (by kernel_rfl) (by kernel_rfl) (by kernel_rfl) (fun _ _ _ h => h) (Or.inl ⟨by rfl, fun w hSw => by (try dsimp only at hSw); go_simp; (try with_reducible rfl)⟩) (by assumption) ?_
      try simp only [Act.put, List.setIfInBounds_toArray, List.set_cons_zero, List.set_cons_succ, List.getElem_toArray, List.getElem_cons_zero, List.getElem_cons_succ]
      refine wpAnyH_take (i := 21) (v := ?_) rfl (by kernel_rfl) (by kernel_rfl) (by kernel_rfl) (fun _ _ _ h => h) (Or.inl ⟨by rfl, fun w hSw => by (try dsimp only at hSw); go_simp; (try with_reducible rfl)⟩) (by assumption) ?_
      try simp only [Act.put, List.setIfInBounds_toArray, List.set_cons_zero, List.set_cons_succ, List.getElem_toArray, List.getElem_cons_zero, List.getElem_cons_succ]
      refine wpAnyH_take (i := 22) (v := ?_) rfl (by kernel_rfl) (by kernel_rfl) (by kernel_rfl) (fun _ _ _ h => h) (Or.inl ⟨by rfl, fun w hSw => by (try dsimp only at hSw); go_simp; (try with_reducible rfl)⟩) (by assumption) ?_
      try simp only [Act.put, List.setIfInBounds_toArray, List.set_cons_zero, List.set_cons_succ, List.getElem_toArray, List.getElem_cons_zero, List.getElem_cons_succ]
      refine wpAnyH_take (i := 23) (v := ?_) rfl (by kernel_rfl) (by kernel_rfl) (by kernel_rfl) (fun _ _ _ h => h) (Or.inl ⟨by rfl, fun w hSw => by (try dsimp only at hSw); go_simp; (try with_reducible rfl)⟩) (by assumption) ?_
      try simp only [Act.put, List.setIfInBounds_toArray, List.set_cons_zero, List.set_cons_succ, List.getElem_toArray, List.getElem_cons_zero, List.getElem_cons_succ]
      refine wpAnyH_ready (rs := [20]) (by kernel_rfl) (by simp) ?_
      refine AllReadyH.cons rfl (fun K hK => ?_) AllReadyH.nil
      go_simp
      refine (impl_owners (rn21) ra23 rc24 (rl22) ky25 (nk26 : Int) _ (by unfold maxLen; omega) (by unfold maxLen; omega) I29.out.at_).mono ?_
      rintro e wx80 ⟨qa78, qc79, rfl, ho, hb⟩
      replace I12 := Lib.hid (I12.out.below hb)
      replace V14 := Lib.hid (V14.out.below hb)
      replace O18 := Lib.hid (O18.out.below hb)
      replace I29 := Lib.hid (I29.out.below hb)
      replace V31 := Lib.hid (V31.out.below hb)
      replace I43 := Lib.hid (I43.out.below hb)
      replace D44 := Lib.hid (D44.out.below hb)
      replace V46 := Lib.hid (V46.out.below hb)
      replace O50 := Lib.hid (O50.out.below hb)
      replace D0 := Lib.hid (D0.out.below hb)
      have O81 := Lib.hid (show ROwnI 1 zenc wx80 wx76.heap.size wx80.heap.size qa78 (ownersV (rn21) (rl22) ky25 (nk26 : Int)) from ⟨ho, Nat.le_refl _⟩)
      have Z82 := hb.size
      clear hb ho
      have bd83 := ownersV_len (rn21) (rl22) ky25 (nk26 : Int)
      go_wp2_with fail
      refine hK.out _ _ (by exact ⟨V14.out.c0, V14.out.c1, V31.out.c0, V31.out.c1, V46.out.c0, V46.out.c1⟩) (fun hHeld => ?_)
      clear hK K
      try simp only [Act.put, List.setIfInBounds_toArray, List.set_cons_zero, List.set_cons_succ, List.getElem_toArray, List.getElem_cons_zero, List.getElem_cons_succ]
      refine wpAnyH_ready (rs := [24]) (by kernel_rfl) (by simp) ?_
      refine AllReadyH.cons rfl (fun K hK => ?_) AllReadyH.nil
      go_simp
      refine (spec_owners (rn21) ra23 rc24 (rl22) ky25 (nk26 : Int) _ (by unfold maxLen; omega) (by unfold maxLen; omega) I29.out.at_).mono ?_
      rintro e wx86 ⟨qa84, qc85, rfl, ho, hb⟩
      replace I12 := Lib.hid (I12.out.below hb)
      replace V14 := Lib.hid (V14.out.below hb)
      replace O18 := Lib.hid (O18.out.below hb)
      replace I29 := Lib.hid (I29.out.below hb)
      replace V31 := Lib.hid (V31.out.below hb)
      replace I43 := Lib.hid (I43.out.below hb)
      replace D44 := Lib.hid (D44.out.below hb)
      replace V46 := Lib.hid (V46.out.below hb)
      replace O50 := Lib.hid (O50.out.below hb)
      replace D0 := Lib.hid (D0.out.below hb)
      replace O81 := Lib.hid (O81.out.below hb)
      have O87 := Lib.hid (show ROwnI 1 zenc wx86 wx80.heap.size wx86.heap.size qa84 (ownersV (rn21) (rl22) ky25 (nk26 : Int)) from ⟨ho, Nat.le_refl _⟩)
      have Z88 := hb.size
      clear hb ho
      have bd89 := ownersV_len (rn21) (rl22) ky25 (nk26 : Int)
      go_wp2_with fail
      refine hK.out _ _ (by exact ⟨V14.out.c0, V14.out.c1, V31.out.c0, V31.out.c1, V46.out.c0, V46.out.c1⟩) (fun hHeld => ?_)
      clear hK K
      try simp only [Act.put, List.setIfInBounds_toArray, List.set_cons_zero, List.set_cons_succ, List.getElem_toArray, List.getElem_cons_zero, List.getElem_cons_succ]
      refine wpAnyH_ready (rs := [25]) (by kernel_rfl) (by simp) ?_
      refine AllReadyH.cons rfl (fun K hK => ?_) AllReadyH.nil
      go_simp
      refine (lw_nums qa78 qa84 qc79 qc85 (ownersV (rn21) (rl22) ky25 (nk26 : Int)) _ (by unfold maxLen; omega) O81.out.at_ O87.out.at_).mono ?_
      rintro e wx90 ⟨rfl, hb⟩
      replace I12 := Lib.hid (I12.out.below hb)
      replace V14 := Lib.hid (V14.out.below hb)
      replace O18 := Lib.hid (O18.out.below hb)
      replace I29 := Lib.hid (I29.out.below hb)
      replace V31 := Lib.hid (V31.out.below hb)
      replace I43 := Lib.hid (I43.out.below hb)
      replace D44 := Lib.hid (D44.out.below hb)
      replace V46 := Lib.hid (V46.out.below hb)
      replace O50 := Lib.hid (O50.out.below hb)
      replace D0 := Lib.hid (D0.out.below hb)
      replace O81 := Lib.hid (O81.out.below hb)
      replace O87 := Lib.hid (O87.out.below hb)
      have Z91 := hb.size
      clear hb
      clear O87
      go_wp2_with fail
      refine hK.out _ _ (by exact ⟨V14.out.c0, V14.out.c1, V31.out.c0, V31.out.c1, V46.out.c0, V46.out.c1⟩) (fun hHeld => ?_)
      clear hK K
      try simp only [Act.put, List.setIfInBounds_toArray, List.set_cons_zero, List.set_cons_succ, List.getElem_toArray, List.getElem_cons_zero, List.getElem_cons_succ]
      refine wpAnyH_take (i := 26) (v := ?_) rfl (by kernel_rfl) (by kernel_rfl) (by kernel_rfl) (fun _ _ _ h => h) (Or.inl ⟨by rfl, fun w hSw => by (try dsimp only at hSw); go_simp; (try with_reducible rfl)⟩) (by assumption) ?_
      try simp only [Act.put, List.setIfInBounds_toArray, List.set_cons_zero, List.set_cons_succ, List.getElem_toArray, List.getElem_cons_zero, List.getElem_cons_succ]
      refine wpAnyH_take (i := 27) (v := ?_) rfl (by kernel_rfl) (by kernel_rfl) (by kernel_rfl) (fun _ _ _ h => h) (Or.inl ⟨by rfl, fun w hSw => by (try dsimp only at hSw); go_simp; (try with_reducible rfl)⟩) (by assumption) ?_
      try simp only [Act.put, List.setIfInBounds_toArray, List.set_cons_zero, List.set_cons_succ, List.getElem_toArray, List.getElem_cons_zero, List.getElem_cons_succ]
      refine wpAnyH_take (i := 28) (v := ?_) rfl (by kernel_rfl) (by kernel_rfl) (by kernel_rfl) (fun _ _ _ h => h) (Or.inl ⟨by rfl, fun w hSw => by (try dsimp only at hSw); go_simp; (try with_reducible rfl)⟩) (by assumption) ?_
      try simp only [Act.put, List.setIfInBounds_toArray, List.set_cons_zero, List.set_cons_succ, List.getElem_toArray, List.getElem_cons_zero, List.getElem_cons_succ]
      refine wpAnyH_take (i := 29) (v := ?_) rfl (by kernel_rfl) (by kernel_rfl) (by kernel_rfl) (fun _ _ _ h => h) (Or.inl ⟨by rfl, fun w hSw => by (try dsimp only at hSw); go_simp; (try with_reducible rfl)⟩) (by assumption) ?_
      try simp only [Act.put, List.setIfInBounds_toArray, List.set_cons_zero, List.set_cons_succ, List.getElem_toArray, List.getElem_cons_zero, List.getElem_cons_succ]
      refine wpAnyH_take (i := 30) (v := ?_) rfl (by kernel_rfl) (by kernel_rfl) (by kernel_rfl) (fun _ _ _ h => h) (Or.inl ⟨by rfl, fun w hSw => by (try dsimp only at hSw); go_simp; (try with_reducible rfl)⟩) (by assumption) ?_
      try simp only [Act.put, List.setIfInBounds_toArray, List.set_cons_zero, List.set_cons_succ, List.getElem_toArray, List.getElem_cons_zero, List.getElem_cons_succ]
      refine wpAnyH_take (i := 31) (v := ?_) rfl (by kernel_rfl) (by kernel_rfl) (by kernel_rfl) (fun _ _ _ h => h) (Or.inl ⟨by rfl, fun w hSw => by (try dsimp only at hSw); go_simp; (try with_reducible rfl)⟩) (by assumption) ?_
      try simp only [Act.put, List.setIfInBounds_toArray, List.set_cons_zero, List.set_cons_succ, List.getElem_toArray, List.getElem_cons_zero, List.getElem_cons_succ]
      refine wpAnyH_take (i := 32) (v := ?_) rfl (by kernel_rfl) (by kernel_rfl) (by kernel_rfl) (fun _ _ _ h => h) (Or.inl ⟨by rfl, fun w hSw => by (try dsimp only at hSw); go_simp; (try with_reducible rfl)⟩) (by assumption) ?_
      try simp only [Act.put, List.setIfInBounds_toArray, List.set_cons_zero, List.set_cons_succ, List.getElem_toArray, List.getElem_cons_zero, List.getElem_cons_succ]
      refine wpAnyH_take (i := 33) (v := ?_) rfl (by kernel_rfl) (by kernel_rfl) (by kernel_rfl) (fun _ _ _ h => h) (Or.inl ⟨by rfl, fun w hSw => by (try dsimp only at hSw); go_simp; (try with_reducible rfl)⟩) (by assumption) ?_
      try simp only [Act.put, List.setIfInBounds_toArray, List.set_cons_zero, List.set_cons_succ, List.getElem_toArray, List.getElem_cons_zero, List.getElem_cons_succ]
      refine wpAnyH_ready (rs := [34]) (by kernel_rfl) (by simp) ?_
      refine AllReadyH.cons rfl (fun K hK => ?_) AllReadyH.nil
      go_simp
      refine (spec_standIns (rn32) ra34 rc35 (rl33) ky36 nk37 da39 dc40 (dl38) _ (by unfold maxLen; omega) (by unfold maxLen; omega) (by unfold maxLen; omega) I43.out.at_ D44.out.at_).mono ?_
      rintro e wx94 ⟨qa92, qc93, rfl, ho, hb⟩
      replace I12 := Lib.hid (I12.out.below hb)
      replace V14 := Lib.hid (V14.out.below hb)
      replace O18 := Lib.hid (O18.out.below hb)
      replace I29 := Lib.hid (I29.out.below hb)
      replace V31 := Lib.hid (V31.out.below hb)
      replace I43 := Lib.hid (I43.out.below hb)
      replace D44 := Lib.hid (D44.out.below hb)
      replace V46 := Lib.hid (V46.out.below hb)
      replace O50 := Lib.hid (O50.out.below hb)
      replace D0 := Lib.hid (D0.out.below hb)
      replace O81 := Lib.hid (O81.out.below hb)
      have O95 := Lib.hid (show ROwnI 1 zenc wx94 wx90.heap.size wx94.heap.size qa92 (standV (rn32) (rl33) ky36 nk37 (dl38)) from ⟨ho, Nat.le_refl _⟩)
      have Z96 := hb.size
      clear hb ho
      have bd97 := standV_len (rn32) (rl33) ky36 nk37 (dl38)
      go_wp2_with fail
      refine hK.out _ _ (by exact ⟨V14.out.c0, V14.out.c1, V31.out.c0, V31.out.c1, V46.out.c0, V46.out.c1⟩) (fun hHeld => ?_)
      clear hK K
      try simp only [Act.put, List.setIfInBounds_toArray, List.set_cons_zero, List.set_cons_succ, List.getElem_toArray, List.getElem_cons_zero, List.getElem_cons_succ]
      refine wpAnyH_ready (rs := [35]) (by kernel_rfl) (by simp) ?_
      refine AllReadyH.cons rfl (fun K hK => ?_) AllReadyH.nil
      go_simp
      refine (lw_nums qa47 qa92 qc48 qc93 (standV (rn32) (rl33) ky36 nk37 (dl38)) _ (by unfold maxLen; omega) O50.out.at_ O95.out.at_).mono ?_
      rintro e wx98 ⟨rfl, hb⟩
      replace I12 := Lib.hid (I12.out.below hb)
      replace V14 := Lib.hid (V14.out.below hb)
      replace O18 := Lib.hid (O18.out.below hb)
      replace I29 := Lib.hid (I29.out.below hb)
      replace V31 := Lib.hid (V31.out.below hb)
      replace I43 := Lib.hid (I43.out.below hb)
      replace D44 := Lib.hid (D44.out.below hb)
      replace V46 := Lib.hid (V46.out.below hb)
      replace O50 := Lib.hid (O50.out.below hb)
      replace D0 := Lib.hid (D0.out.below hb)
      replace O81 := Lib.hid (O81.out.below hb)
      replace O95 := Lib.hid (O95.out.below hb)
      have Z99 := hb.size
      clear hb
      clear O95
      go_wp2_with fail
      refine hK.out _ _ (by exact ⟨V14.out.c0, V14.out.c1, V31.out.c0, V31.out.c1, V46.out.c0, V46.out.c1⟩) (fun hHeld => ?_)
      clear hK K
      try simp only [Act.put, List.setIfInBounds_toArray, List.set_cons_zero, List.set_cons_succ, List.getElem_toArray, List.getElem_cons_zero, List.getElem_cons_succ]
      refine wpAnyH_take (i := 36) (v := ?_) rfl (by kernel_rfl) (by kernel_rfl) (by kernel_rfl) (fun _ _ _ h => h) (Or.inl ⟨by rfl, fun w hSw => by (try dsimp only at hSw); go_simp; (try with_reducible rfl)⟩) (by assumption) ?_
      try simp only [Act.put, List.setIfInBounds_toArray, List.set_cons_zero, List.set_cons_succ, List.getElem_toArray, List.getElem_cons_zero, List.getElem_cons_succ]
      refine wpAnyH_take (i := 37) (v := ?_) rfl (by kernel_rfl) (by kernel_rfl) (by kernel_rfl) (fun _ _ _ h => h) (Or.inl ⟨by rfl, fun w hSw => by (try dsimp only at hSw); go_simp; (try with_reducible rfl)⟩) (by assumption) ?_
      try simp only [Act.put, List.setIfInBounds_toArray, List.set_cons_zero, List.set_cons_succ, List.getElem_toArray, List.getElem_cons_zero, List.getElem_cons_succ]
      refine wpAnyH_take (i := 38) (v := ?_) rfl (by kernel_rfl) (by kernel_rfl) (by kernel_rfl) (fun _ _ _ h => h) (Or.inl ⟨by rfl, fun w hSw => by (try dsimp only at hSw); go_simp; (try with_reducible rfl)⟩) (by assumption) ?_
      try simp only [Act.put, List.setIfInBounds_toArray, List.set_cons_zero, List.set_cons_succ, List.getElem_toArray, List.getElem_cons_zero, List.getElem_cons_succ]
      refine wpAnyH_take (i := 39) (v := ?_) rfl (by kernel_rfl) (by kernel_rfl) (by kernel_rfl) (fun _ _ _ h => h) (Or.inl ⟨by rfl, fun w hSw => by (try dsimp only at hSw); go_simp; (try with_reducible rfl)⟩) (by assumption) ?_
      try simp only [Act.put, List.setIfInBounds_toArray, List.set_cons_zero, List.set_cons_succ, List.getElem_toArray, List.getElem_cons_zero, List.getElem_cons_succ]
      refine wpAnyH_take (i := 41) (v := ?_) rfl (by kernel_rfl) (by kernel_rfl) (by kernel_rfl) (fun _ _ _ h => h) (Or.inl ⟨by rfl, fun w hSw => by (try dsimp only at hSw); go_simp; (try with_reducible rfl)⟩) (by assumption) ?_
      try simp only [Act.put, List.setIfInBounds_toArray, List.set_cons_zero, List.set_cons_succ, List.getElem_toArray, List.getElem_cons_zero, List.getElem_cons_succ]
      refine wpAnyH_ready (rs := [40]) (by kernel_rfl) (by simp) ?_
      refine AllReadyH.cons rfl (fun K hK => ?_) AllReadyH.nil
      go_simp
      refine (Fv.impl_Fnv du53 (by unfold maxLen; omega) _).mono ?_
      rintro e w' ⟨rfl, rfl⟩
      go_wp2_with fail
      refine hK.out _ _ (by exact ⟨V14.out.c0, V14.out.c1, V31.out.c0, V31.out.c1, V46.out.c0, V46.out.c1⟩) (fun hHeld => ?_)
      clear hK K
      try simp only [Act.put, List.setIfInBounds_toArray, List.set_cons_zero, List.set_cons_succ, List.getElem_toArray, List.getElem_cons_zero, List.getElem_cons_succ]
      refine wpAnyH_ready (rs := [42]) (by kernel_rfl) (by simp) ?_
      refine AllReadyH.cons rfl (fun K hK => ?_) AllReadyH.nil
      go_simp
      refine (Fv.spec_Fnv du53 (by unfold maxLen; omega) _).mono ?_
      rintro e w' ⟨rfl, rfl⟩
      go_wp2_with fail
      refine hK.out _ _ (by exact ⟨V14.out.c0, V14.out.c1, V31.out.c0, V31.out.c1, V46.out.c0, V46.out.c1⟩) (fun hHeld => ?_)
      clear hK K
      try simp only [Act.put, List.setIfInBounds_toArray, List.set_cons_zero, List.set_cons_succ, List.getElem_toArray, List.getElem_cons_zero, List.getElem_cons_succ]
      refine wpAnyH_take (i := 43) (v := ?_) rfl (by kernel_rfl) (by kernel_rfl) (by kernel_rfl) (fun _ _ _ h => h) (Or.inl ⟨by rfl, fun w hSw => by (try dsimp only at hSw); go_simp; (try with_reducible rfl)⟩) (by assumption) ?_
      try simp only [Act.put, List.setIfInBounds_toArray, List.set_cons_zero, List.set_cons_succ, List.getElem_toArray, List.getElem_cons_zero, List.getElem_cons_succ]
      refine wpAnyH_take (i := 44) (v := ?_) rfl (by kernel_rfl) (by kernel_rfl) (by kernel_rfl) (fun _ _ _ h => h) (Or.inl ⟨by rfl, fun w hSw => by (try dsimp only at hSw); go_simp; (try with_reducible rfl)⟩) (by assumption) ?_
      try simp only [Act.put, List.setIfInBounds_toArray, List.set_cons_zero, List.set_cons_succ, List.getElem_toArray, List.getElem_cons_zero, List.getElem_cons_succ]
      refine wpAnyH_take (i := 45) (v := ?_) rfl (by kernel_rfl) (by kernel_rfl) (by kernel_rfl) (fun _ _ _ h => h) (Or.inl ⟨by rfl, fun w hSw => by (try dsimp only at hSw); go_simp; (try with_reducible rfl)⟩) (by assumption) ?_
      try simp only [Act.put, List.setIfInBounds_toArray, List.set_cons_zero, List.set_cons_succ, List.getElem_toArray, List.getElem_cons_zero, List.getElem_cons_succ]
      refine wpAnyH_take (i := 46) (v := ?_) rfl (by kernel_rfl) (by kernel_rfl) (by kernel_rfl) (fun _ _ _ h => h) (Or.inl ⟨by rfl, fun w hSw => by (try dsimp only at hSw); go_simp; (try with_reducible rfl)⟩) (by assumption) ?_
      try simp only [Act.put, List.setIfInBounds_toArray, List.set_cons_zero, List.set_cons_succ, List.getElem_toArray, List.getElem_cons_zero, List.getElem_cons_succ]
      refine wpAnyH_take (i := 48) (v := ?_) rfl (by kernel_rfl) (by kernel_rfl) (by kernel_rfl) (fun _ _ _ h => h) (Or.inl ⟨by rfl, fun w hSw => by (try dsimp only at hSw); go_simp; (try with_reducible rfl)⟩) (by assumption) ?_
      try simp only [Act.put, List.setIfInBounds_toArray, List.set_cons_zero, List.set_cons_succ, List.getElem_toArray, List.getElem_cons_zero, List.getElem_cons_succ]
      refine wpAnyH_ready (rs := [47]) (by kernel_rfl) (by simp) ?_
      refine AllReadyH.cons rfl (fun K hK => ?_) AllReadyH.nil
      go_simp
      refine (impl_ringRight (rn5) ra7 rc8 (rl6) _ (by unfold maxLen; omega) I12.out.at_).mono ?_
      rintro e wx100 ⟨rfl, hb⟩
      replace I12 := Lib.hid (I12.out.below hb)
      replace V14 := Lib.hid (V14.out.below hb)
      replace O18 := Lib.hid (O18.out.below hb)
      replace I29 := Lib.hid (I29.out.below hb)
      replace V31 := Lib.hid (V31.out.below hb)
      replace I43 := Lib.hid (I43.out.below hb)
      replace D44 := Lib.hid (D44.out.below hb)
      replace V46 := Lib.hid (V46.out.below hb)
      replace O50 := Lib.hid (O50.out.below hb)
      replace D0 := Lib.hid (D0.out.below hb)
      replace O81 := Lib.hid (O81.out.below hb)
      have Z101 := hb.size
      clear hb
      go_wp2_with fail
      refine hK.out _ _ (by exact ⟨V14.out.c0, V14.out.c1, V31.out.c0, V31.out.c1, V46.out.c0, V46.out.c1⟩) (fun hHeld => ?_)
      clear hK K
      try simp only [Act.put, List.setIfInBounds_toArray, List.set_cons_zero, List.set_cons_succ, List.getElem_toArray, List.getElem_cons_zero, List.getElem_cons_succ]
      refine wpAnyH_ready (rs := [49]) (by kernel_rfl) (by simp) ?_
      refine AllReadyH.cons rfl (fun K hK => ?_) AllReadyH.nil
      go_simp
      refine (spec_ringRight (rn5) ra7 rc8 (rl6) _ (by unfold maxLen; omega) I12.out.at_).mono ?_
      rintro e wx102 ⟨rfl, hb⟩
      replace I12 := Lib.hid (I12.out.below hb)
      replace V14 := Lib.hid (V14.out.below hb)
      replace O18 := Lib.hid (O18.out.below hb)
      replace I29 := Lib.hid (I29.out.below hb)
      replace V31 := Lib.hid (V31.out.below hb)
      replace I43 := Lib.hid (I43.out.below hb)
      replace D44 := Lib.hid (D44.out.below hb)
      replace V46 := Lib.hid (V46.out.below hb)
      replace O50 := Lib.hid (O50.out.below hb)
      replace D0 := Lib.hid (D0.out.below hb)
      replace O81 := Lib.hid (O81.out.below hb)
      have Z103 := hb.size
      clear hb
      go_wp2_with fail
      refine hK.out _ _ (by exact ⟨V14.out.c0, V14.out.c1, V31.out.c0, V31.out.c1, V46.out.c0, V46.out.c1⟩) (fun hHeld => ?_)
      clear hK K
      try simp only [Act.put, List.setIfInBounds_toArray, List.set_cons_zero, List.set_cons_succ, List.getElem_toArray, List.getElem_cons_zero, List.getElem_cons_succ]
      refine wpAnyH_take (i := 50) (v := ?_) rfl (by kernel_rfl) (by kernel_rfl) (by kernel_rfl) (fun _ _ _ h => h) (Or.inl ⟨by rfl, fun w hSw => by (try dsimp only at hSw); go_simp; (try with_reducible rfl)⟩) (by assumption) ?_
      try simp only [Act.put, List.setIfInBounds_toArray, List.set_cons_zero, List.set_cons_succ, List.getElem_toArray, List.getElem_cons_zero, List.getElem_cons_succ]
      refine wpAnyH_take (i := 51) (v := ?_) rfl (by kernel_rfl) (by kernel_rfl) (by kernel_rfl) (fun _ _ _ h => h) (Or.inl ⟨by rfl, fun w hSw => by (try dsimp only at hSw); go_simp; (try with_reducible rfl)⟩) (by assumption) ?_
      try simp only [Act.put, List.setIfInBounds_toArray, List.set_cons_zero, List.set_cons_succ, List.getElem_toArray, List.getElem_cons_zero, List.getElem_cons_succ]
      refine wpAnyH_done (by kernel_rfl) ?_ _
      go_wp2_with fail
      go_meet
      exact ⟨rfl, D0.out⟩
  case rest =>
    obtain ⟨rfl, hb⟩ := hcut
    obtain ⟨wk10, hwk⟩ : ∃ x, x = wc := ⟨_, rfl⟩
    subst hwk
    replace K0 := Lib.hid (K0.out.below hb)
    replace K1 := Lib.hid (K1.out.below hb)
    replace B := Lib.hid (B.out.below hb)
    replace I12 := Lib.hid (I12.out.below hb)
    replace V14 := Lib.hid (V14.out.below hb)
    replace O18 := Lib.hid (O18.out.below hb)
    replace I29 := Lib.hid (I29.out.below hb)
    replace V31 := Lib.hid (V31.out.below hb)
    replace I43 := Lib.hid (I43.out.below hb)
    replace D44 := Lib.hid (D44.out.below hb)
    replace V46 := Lib.hid (V46.out.below hb)
    replace O50 := Lib.hid (O50.out.below hb)
    have Z10 := hb.size
    clear hb
    clear K0
    clear K1
    clear I29
    clear V31
    clear I43
    clear V46
    have HN := Lib.hid (orderV_nodup (rn5) (rl6) ky9)
    have HS := Lib.hid (standV_right (rn32) (rl33) ky36 nk37 (dl38))
    obtain ⟨V14_c0, V14_c1, V14_l⟩ := V14.out
    go_wp2
    clear V14_c0 V14_c1 V14_l
    go_loopw [19] (fun i wr => ∃ k : Nat, k ≤ (orderV (rn5) (rl6) ky9).length ∧ i = .int .i64 k ∧ Below wk10.heap.size wk10 wr) (fun i _ => (orderV (rn5) (rl6) ky9).length - (intOf i).toNat)
    case atStart => exact ⟨0, Nat.zero_le _, rfl, Below.refl _ _⟩
    case round =>
      obtain ⟨k, hk, rfl, hb⟩ := hrel
      have HB := Lib.hid hb
      clear hb
      by_cases hlt : k < (orderV (rn5) (rl6) ky9).length
      · as_aux_lemma =>
          have i1 : (k : Int) < ((orderV (rn5) (rl6) ky9).length : Int) := by omega
          go_wp2
          go_loopw [20] (fun j wr2 => ∃ m : Nat, m ≤ k ∧ j = .int .i64 m ∧ Below wk10.heap.size wk10 wr2) (fun j _ => k - (intOf j).toNat)
          case atStart => exact ⟨0, Nat.zero_le _, rfl, HB.out⟩
          case round =>
            obtain ⟨m, hm, rfl, hb2⟩ := hrel
            have HB2 := Lib.hid hb2
            clear hb2 HB
            by_cases hlt2 : m < k
            · have hml : m < (orderV (rn5) (rl6) ky9).length := by omega
              obtain ⟨gq, oq, ha, cm, ck⟩ := zcells (RowAt.mono (by decide) O18.out.at_ HB2.out) hml hlt
              have hne := nodup_ne HN.out hml hlt hlt2
              generalize (orderV (rn5) (rl6) ky9)[m] = x at cm hne
              generalize (orderV (rn5) (rl6) ky9)[k] = y at ck hne
              subst ha
              have j1 : (m : Int) < ((orderV (rn5) (rl6) ky9).length : Int) := by omega
              have i0 : (0 : Int) ≤ (m : Int) := by omega
              have i2 : (0 : Int) ≤ (k : Int) := by omega
              have j2 : (m : Int) < (k : Int) := by omega
              have e1 : (x == y) = false := by simp [hne]
              clear hne
              go_wp2_with fail
              go_region_held3 (fun w' => w'.cell? ⟨gq, oq + m, none⟩ = some (.int .i64 x) ∧ w'.cell? ⟨gq, oq + k, none⟩ = some (.int .i64 y)) (first | exact ⟨cm, ck⟩ | assumption | go_keep) (fail)
              go_wp2
              go_roundw
              case rel => exact ⟨m + 1, by omega, by go_num, HB2.out.drew⟩
              case measure => go_light; simp [intOf]; omega
            · have j1 : ¬ (m : Int) < (k : Int) := by omega
              go_wp2
              go_roundw
              case rel => exact ⟨k + 1, by omega, by go_num, HB2.out⟩
              case measure => go_light; simp [intOf]; omega
      · have i1 : ¬ (k : Int) < ((orderV (rn5) (rl6) ky9).length : Int) := by omega
        have hb := HB.out
        replace B := Lib.hid (B.out.below hb)
        replace I12 := Lib.hid (I12.out.below hb)
        replace V14 := Lib.hid (V14.out.below hb)
        replace O18 := Lib.hid (O18.out.below hb)
        replace D44 := Lib.hid (D44.out.below hb)
        replace O50 := Lib.hid (O50.out.below hb)
        have Z11 := hb.size
        clear hb HB
        obtain ⟨V14_c0, V14_c1, V14_l⟩ := V14.out
        go_upto_region 20 with fail
        clear V14_c0 V14_c1 V14_l
        clear i1
        go_cut [158] (fun s wx => s = .bool false ∧ Base wr wx)
        case first =>
          as_aux_lemma =>
            have D0 := Lib.hid (show Base wr wr from Below.refl _ _)
            try dsimp only [List.append]
            clear D44
            clear O50
            clear B
            have hb := step_drew wr
            replace I12 := Lib.hid (I12.out.below hb)
            replace V14 := Lib.hid (V14.out.below hb)
            replace O18 := Lib.hid (O18.out.below hb)
            replace D0 := Lib.hid (D0.out.below hb)
            clear hb
            cases hr1 : ringB (rn5) (rl6)
            · have tk0 := True.intro
              refine wp_region_held_drew (S := fun w' => w'.cell? ⟨wx10.heap.size, 0, none⟩ = some (.int .i64 (rn5)) ∧ w'.cell? ⟨wx10.heap.size, 1, none⟩ = some (.slice ra7 (rl6).length rc8)) (by kernel_rfl) (by exact ⟨V14.out.c0, V14.out.c1⟩) (fun hHeld => ?_)
              refine wpAnyH_take (i := 0) (v := ?_) rfl (by kernel_rfl) (by kernel_rfl) (by kernel_rfl) (fun _ _ _ h => h) (Or.inl ⟨by rfl, fun w hSw => by (try dsimp only at hSw); go_simp; (try with_reducible rfl)⟩) (by assumption) ?_
              try simp only [Act.put, List.setIfInBounds_toArray, List.set_cons_zero, List.set_cons_succ, List.getElem_toArray, List.getElem_cons_zero, List.getElem_cons_succ]
              refine wpAnyH_ready (rs := [1]) (by kernel_rfl) (by simp) ?_
              refine AllReadyH.cons rfl (fun K hK => ?_) AllReadyH.nil
              go_simp
              go_at_call 27
              refine (spec_ringRight (rn5) ra7 rc8 (rl6) _ (by unfold maxLen; omega) I12.out.at_).mono ?_
              rintro e wz1 ⟨rfl, hb⟩
              replace I12 := Lib.hid (I12.out.below hb)
              replace V14 := Lib.hid (V14.out.below hb)
              replace O18 := Lib.hid (O18.out.below hb)
              replace D0 := Lib.hid (D0.out.below hb)
              clear hb
              rw [hr1]
              go_wp2_with fail
              refine hK.out _ _ (by exact ⟨V14.out.c0, V14.out.c1⟩) (fun hHeld => ?_)
              clear hK K
              try simp only [Act.put, List.setIfInBounds_toArray, List.set_cons_zero, List.set_cons_succ, List.getElem_toArray, List.getElem_cons_zero, List.getElem_cons_succ]
              refine wpAnyH_take (i := 2) (v := ?_) rfl (by kernel_rfl) (by kernel_rfl) (by kernel_rfl) (fun _ _ _ h => h) (Or.inl ⟨by rfl, fun w hSw => by (try dsimp only at hSw); go_simp; (try with_reducible rfl)⟩) (by assumption) ?_
              try simp only [Act.put, List.setIfInBounds_toArray, List.set_cons_zero, List.set_cons_succ, List.getElem_toArray, List.getElem_cons_zero, List.getElem_cons_succ]
              refine wpAnyH_take (i := 3) (v := undef) rfl (by kernel_rfl) (by kernel_rfl) (by kernel_rfl) (fun _ _ _ h => h) (Or.inr ⟨by rfl, rfl⟩) (by assumption) ?_
              try simp only [Act.put, List.setIfInBounds_toArray, List.set_cons_zero, List.set_cons_succ, List.getElem_toArray, List.getElem_cons_zero, List.getElem_cons_succ]
              refine wpAnyH_take (i := 4) (v := undef) rfl (by kernel_rfl) (by kernel_rfl) (by kernel_rfl) (fun _ _ _ h => h) (Or.inr ⟨by rfl, rfl⟩) (by assumption) ?_
              try simp only [Act.put, List.setIfInBounds_toArray, List.set_cons_zero, List.set_cons_succ, List.getElem_toArray, List.getElem_cons_zero, List.getElem_cons_succ]
              refine wpAnyH_take (i := 5) (v := ?_) rfl (by kernel_rfl) (by kernel_rfl) (by kernel_rfl) (fun _ _ _ h => h) (Or.inl ⟨by rfl, fun w hSw => by (try dsimp only at hSw); go_simp; (try with_reducible rfl)⟩) (by assumption) ?_
              try simp only [Act.put, List.setIfInBounds_toArray, List.set_cons_zero, List.set_cons_succ, List.getElem_toArray, List.getElem_cons_zero, List.getElem_cons_succ]
              refine wpAnyH_take (i := 6) (v := ?_) rfl (by kernel_rfl) (by kernel_rfl) (by kernel_rfl) (fun _ _ _ h => h) (Or.inl ⟨by rfl, fun w hSw => by (try dsimp only at hSw); go_simp; (try with_reducible rfl)⟩) (by assumption) ?_
              try simp only [Act.put, List.setIfInBounds_toArray, List.set_cons_zero, List.set_cons_succ, List.getElem_toArray, List.getElem_cons_zero, List.getElem_cons_succ]
              refine wpAnyH_take (i := 7) (v := undef) rfl (by kernel_rfl) (by kernel_rfl) (by kernel_rfl) (fun _ _ _ h => h) (Or.inr ⟨by rfl, rfl⟩) (by assumption) ?_
              try simp only [Act.put, List.setIfInBounds_toArray, List.set_cons_zero, List.set_cons_succ, List.getElem_toArray, List.getElem_cons_zero, List.getElem_cons_succ]
              refine wpAnyH_take (i := 8) (v := undef) rfl (by kernel_rfl) (by kernel_rfl) (by kernel_rfl) (fun _ _ _ h => h) (Or.inr ⟨by rfl, rfl⟩) (by assumption) ?_
              try simp only [Act.put, List.setIfInBounds_toArray, List.set_cons_zero, List.set_cons_succ, List.getElem_toArray, List.getElem_cons_zero, List.getElem_cons_succ]
              refine wpAnyH_take (i := 9) (v := undef) rfl (by kernel_rfl) (by kernel_rfl) (by kernel_rfl) (fun _ _ _ h => h) (Or.inr ⟨by rfl, rfl⟩) (by assumption) ?_
              try simp only [Act.put, List.setIfInBounds_toArray, List.set_cons_zero, List.set_cons_succ, List.getElem_toArray, List.getElem_cons_zero, List.getElem_cons_succ]
              refine wpAnyH_take (i := 10) (v := undef) rfl (by kernel_rfl) (by kernel_rfl) (by kernel_rfl) (fun _ _ _ h => h) (Or.inr ⟨by rfl, rfl⟩) (by assumption) ?_
              try simp only [Act.put, List.setIfInBounds_toArray, List.set_cons_zero, List.set_cons_succ, List.getElem_toArray, List.getElem_cons_zero, List.getElem_cons_succ]
              refine wpAnyH_take (i := 11) (v := undef) rfl (by kernel_rfl) (by kernel_rfl) (by kernel_rfl) (fun _ _ _ h => h) (Or.inr ⟨by rfl, rfl⟩) (by assumption) ?_
              try simp only [Act.put, List.setIfInBounds_toArray, List.set_cons_zero, List.set_cons_succ, List.getElem_toArray, List.getElem_cons_zero, List.getElem_cons_succ]
              refine wpAnyH_take (i := 12) (v := undef) rfl (by kernel_rfl) (by kernel_rfl) (by kernel_rfl) (fun _ _ _ h => h) (Or.inr ⟨by rfl, rfl⟩) (by assumption) ?_
              try simp only [Act.put, List.setIfInBounds_toArray, List.set_cons_zero, List.set_cons_succ, List.getElem_toArray, List.getElem_cons_zero, List.getElem_cons_succ]
              refine wpAnyH_take (i := 13) (v := undef) rfl (by kernel_rfl) (by kernel_rfl) (by kernel_rfl) (fun _ _ _ h => h) (Or.inr ⟨by rfl, rfl⟩) (by assumption) ?_
              try simp only [Act.put, List.setIfInBounds_toArray, List.set_cons_zero, List.set_cons_succ, List.getElem_toArray, List.getElem_cons_zero, List.getElem_cons_succ]
              refine wpAnyH_take (i := 14) (v := undef) rfl (by kernel_rfl) (by kernel_rfl) (by kernel_rfl) (fun _ _ _ h => h) (Or.inr ⟨by rfl, rfl⟩) (by assumption) ?_
              try simp only [Act.put, List.setIfInBounds_toArray, List.set_cons_zero, List.set_cons_succ, List.getElem_toArray, List.getElem_cons_zero, List.getElem_cons_succ]
              refine wpAnyH_take (i := 15) (v := undef) rfl (by kernel_rfl) (by kernel_rfl) (by kernel_rfl) (fun _ _ _ h => h) (Or.inr ⟨by rfl, rfl⟩) (by assumption) ?_
              try simp only [Act.put, List.setIfInBounds_toArray, List.set_cons_zero, List.set_cons_succ, List.getElem_toArray, List.getElem_cons_zero, List.getElem_cons_succ]
              refine wpAnyH_take (i := 16) (v := undef) rfl (by kernel_rfl) (by kernel_rfl) (by kernel_rfl) (fun _ _ _ h => h) (Or.inr ⟨by rfl, rfl⟩) (by assumption) ?_
              try simp only [Act.put, List.setIfInBounds_toArray, List.set_cons_zero, List.set_cons_succ, List.getElem_toArray, List.getElem_cons_zero, List.getElem_cons_succ]
              refine wpAnyH_take (i := 17) (v := undef) rfl (by kernel_rfl) (by kernel_rfl) (by kernel_rfl) (fun _ _ _ h => h) (Or.inr ⟨by rfl, rfl⟩) (by assumption) ?_
              try simp only [Act.put, List.setIfInBounds_toArray, List.set_cons_zero, List.set_cons_succ, List.getElem_toArray, List.getElem_cons_zero, List.getElem_cons_succ]
              refine wpAnyH_take (i := 18) (v := undef) rfl (by kernel_rfl) (by kernel_rfl) (by kernel_rfl) (fun _ _ _ h => h) (Or.inr ⟨by rfl, rfl⟩) (by assumption) ?_
              try simp only [Act.put, List.setIfInBounds_toArray, List.set_cons_zero, List.set_cons_succ, List.getElem_toArray, List.getElem_cons_zero, List.getElem_cons_succ]
              refine wpAnyH_take (i := 19) (v := undef) rfl (by kernel_rfl) (by kernel_rfl) (by kernel_rfl) (fun _ _ _ h => h) (Or.inr ⟨by rfl, rfl⟩) (by assumption) ?_
              try simp only [Act.put, List.setIfInBounds_toArray, List.set_cons_zero, List.set_cons_succ, List.getElem_toArray, List.getElem_cons_zero, List.getElem_cons_succ]
              refine wpAnyH_take (i := 20) (v := undef) rfl (by kernel_rfl) (by kernel_rfl) (by kernel_rfl) (fun _ _ _ h => h) (Or.inr ⟨by rfl, rfl⟩) (by assumption) ?_
              try simp only [Act.put, List.setIfInBounds_toArray, List.set_cons_zero, List.set_cons_succ, List.getElem_toArray, List.getElem_cons_zero, List.getElem_cons_succ]
              refine wpAnyH_take (i := 21) (v := ?_) rfl (by kernel_rfl) (by kernel_rfl) (by kernel_rfl) (fun _ _ _ h => h) (Or.inl ⟨by rfl, fun w hSw => by (try dsimp only at hSw); go_simp; (try with_reducible rfl)⟩) (by assumption) ?_
              try simp only [Act.put, List.setIfInBounds_toArray, List.set_cons_zero, List.set_cons_succ, List.getElem_toArray, List.getElem_cons_zero, List.getElem_cons_succ]
              refine wpAnyH_done (by kernel_rfl) ?_ _
              go_wp2_with fail
              go_meet
              exact ⟨rfl, D0.out⟩
            · cases hn1 : Nm.nameB ky9
              · have tk0 := True.intro
                refine wp_region_held_drew (S := fun w' => w'.cell? ⟨wx10.heap.size, 0, none⟩ = some (.int .i64 (rn5)) ∧ w'.cell? ⟨wx10.heap.size, 1, none⟩ = some (.slice ra7 (rl6).length rc8)) (by kernel_rfl) (by exact ⟨V14.out.c0, V14.out.c1⟩) (fun hHeld => ?_)
                refine wpAnyH_take (i := 0) (v := ?_) rfl (by kernel_rfl) (by kernel_rfl) (by kernel_rfl) (fun _ _ _ h => h) (Or.inl ⟨by rfl, fun w hSw => by (try dsimp only at hSw); go_simp; (try with_reducible rfl)⟩) (by assumption) ?_
                try simp only [Act.put, List.setIfInBounds_toArray, List.set_cons_zero, List.set_cons_succ, List.getElem_toArray, List.getElem_cons_zero, List.getElem_cons_succ]
                refine wpAnyH_ready (rs := [1]) (by kernel_rfl) (by simp) ?_
                refine AllReadyH.cons rfl (fun K hK => ?_) AllReadyH.nil
                go_simp
                go_at_call 27
                refine (spec_ringRight (rn5) ra7 rc8 (rl6) _ (by unfold maxLen; omega) I12.out.at_).mono ?_
                rintro e wz1 ⟨rfl, hb⟩
                replace I12 := Lib.hid (I12.out.below hb)
                replace V14 := Lib.hid (V14.out.below hb)
                replace O18 := Lib.hid (O18.out.below hb)
                replace D0 := Lib.hid (D0.out.below hb)
                clear hb
                rw [hr1]
                go_wp2_with fail
                refine hK.out _ _ (by exact ⟨V14.out.c0, V14.out.c1⟩) (fun hHeld => ?_)
                clear hK K
                try simp only [Act.put, List.setIfInBounds_toArray, List.set_cons_zero, List.set_cons_succ, List.getElem_toArray, List.getElem_cons_zero, List.getElem_cons_succ]
                refine wpAnyH_take (i := 2) (v := ?_) rfl (by kernel_rfl) (by kernel_rfl) (by kernel_rfl) (fun _ _ _ h => h) (Or.inl ⟨by rfl, fun w hSw => by (try dsimp only at hSw); go_simp; (try with_reducible rfl)⟩) (by assumption) ?_
                try simp only [Act.put, List.setIfInBounds_toArray, List.set_cons_zero, List.set_cons_succ, List.getElem_toArray, List.getElem_cons_zero, List.getElem_cons_succ]
                refine wpAnyH_take (i := 3) (v := ?_) rfl (by kernel_rfl) (by kernel_rfl) (by kernel_rfl) (fun _ _ _ h => h) (Or.inl ⟨by rfl, fun w hSw => by (try dsimp only at hSw); go_simp; (try with_reducible rfl)⟩) (by assumption) ?_
                try simp only [Act.put, List.setIfInBounds_toArray, List.set_cons_zero, List.set_cons_succ, List.getElem_toArray, List.getElem_cons_zero, List.getElem_cons_succ]
                refine wpAnyH_ready (rs := [4]) (by kernel_rfl) (by simp) ?_
                refine AllReadyH.cons rfl (fun K hK => ?_) AllReadyH.nil
                go_simp
                go_at_call 28
                refine (spec_NameRight' ky9 (by unfold maxLen; omega) _).mono ?_
                rintro e w' ⟨rfl, rfl⟩
                rw [hn1]
                go_wp2_with fail
                refine hK.out _ _ (by exact ⟨V14.out.c0, V14.out.c1⟩) (fun hHeld => ?_)
                clear hK K
                try simp only [Act.put, List.setIfInBounds_toArray, List.set_cons_zero, List.set_cons_succ, List.getElem_toArray, List.getElem_cons_zero, List.getElem_cons_succ]
                refine wpAnyH_take (i := 5) (v := ?_) rfl (by kernel_rfl) (by kernel_rfl) (by kernel_rfl) (fun _ _ _ h => h) (Or.inl ⟨by rfl, fun w hSw => by (try dsimp only at hSw); go_simp; (try with_reducible rfl)⟩) (by assumption) ?_
                try simp only [Act.put, List.setIfInBounds_toArray, List.set_cons_zero, List.set_cons_succ, List.getElem_toArray, List.getElem_cons_zero, List.getElem_cons_succ]
                refine wpAnyH_take (i := 6) (v := ?_) rfl (by kernel_rfl) (by kernel_rfl) (by kernel_rfl) (fun _ _ _ h => h) (Or.inl ⟨by rfl, fun w hSw => by (try dsimp only at hSw); go_simp; (try with_reducible rfl)⟩) (by assumption) ?_
                try simp only [Act.put, List.setIfInBounds_toArray, List.set_cons_zero, List.set_cons_succ, List.getElem_toArray, List.getElem_cons_zero, List.getElem_cons_succ]
                refine wpAnyH_take (i := 7) (v := undef) rfl (by kernel_rfl) (by kernel_rfl) (by kernel_rfl) (fun _ _ _ h => h) (Or.inr ⟨by rfl, rfl⟩) (by assumption) ?_
                try simp only [Act.put, List.setIfInBounds_toArray, List.set_cons_zero, List.set_cons_succ, List.getElem_toArray, List.getElem_cons_zero, List.getElem_cons_succ]
                refine wpAnyH_take (i := 8) (v := undef) rfl (by kernel_rfl) (by kernel_rfl) (by kernel_rfl) (fun _ _ _ h => h) (Or.inr ⟨by rfl, rfl⟩) (by assumption) ?_
                try simp only [Act.put, List.setIfInBounds_toArray, List.set_cons_zero, List.set_cons_succ, List.getElem_toArray, List.getElem_cons_zero, List.getElem_cons_succ]
                refine wpAnyH_take (i := 9) (v := undef) rfl (by kernel_rfl) (by kernel_rfl) (by kernel_rfl) (fun _ _ _ h => h) (Or.inr ⟨by rfl, rfl⟩) (by assumption) ?_
                try simp only [Act.put, List.setIfInBounds_toArray, List.set_cons_zero, List.set_cons_succ, List.getElem_toArray, List.getElem_cons_zero, List.getElem_cons_succ]
                refine wpAnyH_take (i := 10) (v := undef) rfl (by kernel_rfl) (by kernel_rfl) (by kernel_rfl) (fun _ _ _ h => h) (Or.inr ⟨by rfl, rfl⟩) (by assumption) ?_
                try simp only [Act.put, List.setIfInBounds_toArray, List.set_cons_zero, List.set_cons_succ, List.getElem_toArray, List.getElem_cons_zero, List.getElem_cons_succ]
                refine wpAnyH_take (i := 11) (v := undef) rfl (by kernel_rfl) (by kernel_rfl) (by kernel_rfl) (fun _ _ _ h => h) (Or.inr ⟨by rfl, rfl⟩) (by assumption) ?_
                try simp only [Act.put, List.setIfInBounds_toArray, List.set_cons_zero, List.set_cons_succ, List.getElem_toArray, List.getElem_cons_zero, List.getElem_cons_succ]
                refine wpAnyH_take (i := 12) (v := undef) rfl (by kernel_rfl) (by kernel_rfl) (by kernel_rfl) (fun _ _ _ h => h) (Or.inr ⟨by rfl, rfl⟩) (by assumption) ?_
                try simp only [Act.put, List.setIfInBounds_toArray, List.set_cons_zero, List.set_cons_succ, List.getElem_toArray, List.getElem_cons_zero, List.getElem_cons_succ]
                refine wpAnyH_take (i := 13) (v := undef) rfl (by kernel_rfl) (by kernel_rfl) (by kernel_rfl) (fun _ _ _ h => h) (Or.inr ⟨by rfl, rfl⟩) (by assumption) ?_
                try simp only [Act.put, List.setIfInBounds_toArray, List.set_cons_zero, List.set_cons_succ, List.getElem_toArray, List.getElem_cons_zero, List.getElem_cons_succ]
                refine wpAnyH_take (i := 14) (v := undef) rfl (by kernel_rfl) (by kernel_rfl) (by kernel_rfl) (fun _ _ _ h => h) (Or.inr ⟨by rfl, rfl⟩) (by assumption) ?_
                try simp only [Act.put, List.setIfInBounds_toArray, List.set_cons_zero, List.set_cons_succ, List.getElem_toArray, List.getElem_cons_zero, List.getElem_cons_succ]
                refine wpAnyH_take (i := 15) (v := undef) rfl (by kernel_rfl) (by kernel_rfl) (by kernel_rfl) (fun _ _ _ h => h) (Or.inr ⟨by rfl, rfl⟩) (by assumption) ?_
                try simp only [Act.put, List.setIfInBounds_toArray, List.set_cons_zero, List.set_cons_succ, List.getElem_toArray, List.getElem_cons_zero, List.getElem_cons_succ]
                refine wpAnyH_take (i := 16) (v := undef) rfl (by kernel_rfl) (by kernel_rfl) (by kernel_rfl) (fun _ _ _ h => h) (Or.inr ⟨by rfl, rfl⟩) (by assumption) ?_
                try simp only [Act.put, List.setIfInBounds_toArray, List.set_cons_zero, List.set_cons_succ, List.getElem_toArray, List.getElem_cons_zero, List.getElem_cons_succ]
                refine wpAnyH_take (i := 17) (v := undef) rfl (by kernel_rfl) (by kernel_rfl) (by kernel_rfl) (fun _ _ _ h => h) (Or.inr ⟨by rfl, rfl⟩) (by assumption) ?_
                try simp only [Act.put, List.setIfInBounds_toArray, List.set_cons_zero, List.set_cons_succ, List.getElem_toArray, List.getElem_cons_zero, List.getElem_cons_succ]
                refine wpAnyH_take (i := 18) (v := undef) rfl (by kernel_rfl) (by kernel_rfl) (by kernel_rfl) (fun _ _ _ h => h) (Or.inr ⟨by rfl, rfl⟩) (by assumption) ?_
                try simp only [Act.put, List.setIfInBounds_toArray, List.set_cons_zero, List.set_cons_succ, List.getElem_toArray, List.getElem_cons_zero, List.getElem_cons_succ]
                refine wpAnyH_take (i := 19) (v := undef) rfl (by kernel_rfl) (by kernel_rfl) (by kernel_rfl) (fun _ _ _ h => h) (Or.inr ⟨by rfl, rfl⟩) (by assumption) ?_
                try simp only [Act.put, List.setIfInBounds_toArray, List.set_cons_zero, List.set_cons_succ, List.getElem_toArray, List.getElem_cons_zero, List.getElem_cons_succ]
                refine wpAnyH_take (i := 20) (v := undef) rfl (by kernel_rfl) (by kernel_rfl) (by kernel_rfl) (fun _ _ _ h => h) (Or.inr ⟨by rfl, rfl⟩) (by assumption) ?_
                try simp only [Act.put, List.setIfInBounds_toArray, List.set_cons_zero, List.set_cons_succ, List.getElem_toArray, List.getElem_cons_zero, List.getElem_cons_succ]
                refine wpAnyH_take (i := 21) (v := ?_) rfl (by kernel_rfl) (by kernel_rfl) (by kernel_rfl) (fun _ _ _ h => h) (Or.inl ⟨by rfl, fun w hSw => by (try dsimp only at hSw); go_simp; (try with_reducible rfl)⟩) (by assumption) ?_
                try simp only [Act.put, List.setIfInBounds_toArray, List.set_cons_zero, List.set_cons_succ, List.getElem_toArray, List.getElem_cons_zero, List.getElem_cons_succ]
                refine wpAnyH_done (by kernel_rfl) ?_ _
                go_wp2_with fail
                go_meet
                exact ⟨rfl, D0.out⟩
              · have tk0 := True.intro
                have HO1 := Lib.hid (first_one hr1 hn1)
                have hL : ((orderV (rn5) (rl6) ky9).length : Int) = rn5 := HO1.out.1
                have hc1 : 1 ≤ qc16 := cap_one HHqa15.out HO1.out.2.1
                have hc2 : (1 : Int) ≤ (qc16 : Int) := by omega
                refine wp_region_held_drew (S := fun w' => w'.cell? ⟨wx10.heap.size, 0, none⟩ = some (.int .i64 (rn5)) ∧ w'.cell? ⟨wx10.heap.size, 1, none⟩ = some (.slice ra7 (rl6).length rc8)) (by kernel_rfl) (by exact ⟨V14.out.c0, V14.out.c1⟩) (fun hHeld => ?_)
                refine wpAnyH_take (i := 0) (v := ?_) rfl (by kernel_rfl) (by kernel_rfl) (by kernel_rfl) (fun _ _ _ h => h) (Or.inl ⟨by rfl, fun w hSw => by (try dsimp only at hSw); go_simp; (try with_reducible rfl)⟩) (by assumption) ?_
                try simp only [Act.put, List.setIfInBounds_toArray, List.set_cons_zero, List.set_cons_succ, List.getElem_toArray, List.getElem_cons_zero, List.getElem_cons_succ]
                refine wpAnyH_ready (rs := [1]) (by kernel_rfl) (by simp) ?_
                refine AllReadyH.cons rfl (fun K hK => ?_) AllReadyH.nil
                go_simp
                go_at_call 27
                refine (spec_ringRight (rn5) ra7 rc8 (rl6) _ (by unfold maxLen; omega) I12.out.at_).mono ?_
                rintro e wz1 ⟨rfl, hb⟩
                replace I12 := Lib.hid (I12.out.below hb)
                replace V14 := Lib.hid (V14.out.below hb)
                replace O18 := Lib.hid (O18.out.below hb)
                replace D0 := Lib.hid (D0.out.below hb)
                clear hb
                rw [hr1]
                go_wp2_with fail
                refine hK.out _ _ (by exact ⟨V14.out.c0, V14.out.c1⟩) (fun hHeld => ?_)
                clear hK K
                try simp only [Act.put, List.setIfInBounds_toArray, List.set_cons_zero, List.set_cons_succ, List.getElem_toArray, List.getElem_cons_zero, List.getElem_cons_succ]
                refine wpAnyH_take (i := 2) (v := ?_) rfl (by kernel_rfl) (by kernel_rfl) (by kernel_rfl) (fun _ _ _ h => h) (Or.inl ⟨by rfl, fun w hSw => by (try dsimp only at hSw); go_simp; (try with_reducible rfl)⟩) (by assumption) ?_
                try simp only [Act.put, List.setIfInBounds_toArray, List.set_cons_zero, List.set_cons_succ, List.getElem_toArray, List.getElem_cons_zero, List.getElem_cons_succ]
                refine wpAnyH_take (i := 3) (v := ?_) rfl (by kernel_rfl) (by kernel_rfl) (by kernel_rfl) (fun _ _ _ h => h) (Or.inl ⟨by rfl, fun w hSw => by (try dsimp only at hSw); go_simp; (try with_reducible rfl)⟩) (by assumption) ?_
                try simp only [Act.put, List.setIfInBounds_toArray, List.set_cons_zero, List.set_cons_succ, List.getElem_toArray, List.getElem_cons_zero, List.getElem_cons_succ]
                refine wpAnyH_ready (rs := [4]) (by kernel_rfl) (by simp) ?_
                refine AllReadyH.cons rfl (fun K hK => ?_) AllReadyH.nil
                go_simp
                go_at_call 28
                refine (spec_NameRight' ky9 (by unfold maxLen; omega) _).mono ?_
                rintro e w' ⟨rfl, rfl⟩
                rw [hn1]
                go_wp2_with fail
                refine hK.out _ _ (by exact ⟨V14.out.c0, V14.out.c1⟩) (fun hHeld => ?_)
                clear hK K
                try simp only [Act.put, List.setIfInBounds_toArray, List.set_cons_zero, List.set_cons_succ, List.getElem_toArray, List.getElem_cons_zero, List.getElem_cons_succ]
                refine wpAnyH_take (i := 5) (v := ?_) rfl (by kernel_rfl) (by kernel_rfl) (by kernel_rfl) (fun _ _ _ h => h) (Or.inl ⟨by rfl, fun w hSw => by (try dsimp only at hSw); go_simp; (try with_reducible rfl)⟩) (by assumption) ?_
                try simp only [Act.put, List.setIfInBounds_toArray, List.set_cons_zero, List.set_cons_succ, List.getElem_toArray, List.getElem_cons_zero, List.getElem_cons_succ]
                refine wpAnyH_take (i := 6) (v := ?_) rfl (by kernel_rfl) (by kernel_rfl) (by kernel_rfl) (fun _ _ _ h => h) (Or.inl ⟨by rfl, fun w hSw => by (try dsimp only at hSw); go_simp; (try with_reducible rfl)⟩) (by assumption) ?_
                try simp only [Act.put, List.setIfInBounds_toArray, List.set_cons_zero, List.set_cons_succ, List.getElem_toArray, List.getElem_cons_zero, List.getElem_cons_succ]
                refine wpAnyH_take (i := 7) (v := ?_) rfl (by kernel_rfl) (by kernel_rfl) (by kernel_rfl) (fun _ _ _ h => h) (Or.inl ⟨by rfl, fun w hSw => by (try dsimp only at hSw); go_simp; (try with_reducible rfl)⟩) (by assumption) ?_
                try simp only [Act.put, List.setIfInBounds_toArray, List.set_cons_zero, List.set_cons_succ, List.getElem_toArray, List.getElem_cons_zero, List.getElem_cons_succ]
                refine wpAnyH_take (i := 8) (v := ?_) rfl (by kernel_rfl) (by kernel_rfl) (by kernel_rfl) (fun _ _ _ h => h) (Or.inl ⟨by rfl, fun w hSw => by (try dsimp only at hSw); go_simp; (try with_reducible rfl)⟩) (by assumption) ?_
                try simp only [Act.put, List.setIfInBounds_toArray, List.set_cons_zero, List.set_cons_succ, List.getElem_toArray, List.getElem_cons_zero, List.getElem_cons_succ]
                refine wpAnyH_take (i := 9) (v := ?_) rfl (by kernel_rfl) (by kernel_rfl) (by kernel_rfl) (fun _ _ _ h => h) (Or.inl ⟨by rfl, fun w hSw => by (try dsimp only at hSw); go_simp; (try with_reducible rfl)⟩) (by assumption) ?_
                try simp only [Act.put, List.setIfInBounds_toArray, List.set_cons_zero, List.set_cons_succ, List.getElem_toArray, List.getElem_cons_zero, List.getElem_cons_succ]
                refine wpAnyH_take (i := 10) (v := ?_) rfl (by kernel_rfl) (by kernel_rfl) (by kernel_rfl) (fun _ _ _ h => h) (Or.inl ⟨by rfl, fun w hSw => by (try dsimp only at hSw); go_simp; (try with_reducible rfl)⟩) (by assumption) ?_
                try simp only [Act.put, List.setIfInBounds_toArray, List.set_cons_zero, List.set_cons_succ, List.getElem_toArray, List.getElem_cons_zero, List.getElem_cons_succ]
                refine wpAnyH_take (i := 11) (v := ?_) rfl (by kernel_rfl) (by kernel_rfl) (by kernel_rfl) (fun _ _ _ h => h) (Or.inl ⟨by rfl, fun w hSw => by (try dsimp only at hSw); go_simp; (try with_reducible rfl)⟩) (by assumption) ?_
                try simp only [Act.put, List.setIfInBounds_toArray, List.set_cons_zero, List.set_cons_succ, List.getElem_toArray, List.getElem_cons_zero, List.getElem_cons_succ]
                refine wpAnyH_take (i := 12) (v := ?_) rfl (by kernel_rfl) (by kernel_rfl) (by kernel_rfl) (fun _ _ _ h => h) (Or.inl ⟨by rfl, fun w hSw => by (try dsimp only at hSw); go_simp; (try with_reducible rfl)⟩) (by assumption) ?_
                try simp only [Act.put, List.setIfInBounds_toArray, List.set_cons_zero, List.set_cons_succ, List.getElem_toArray, List.getElem_cons_zero, List.getElem_cons_succ]
                refine wpAnyH_take (i := 13) (v := ?_) rfl (by kernel_rfl) (by kernel_rfl) (by kernel_rfl) (fun _ _ _ h => h) (Or.inl ⟨by rfl, fun w hSw => by (try dsimp only at hSw); go_simp; (try with_reducible rfl)⟩) (by assumption) ?_
                try simp only [Act.put, List.setIfInBounds_toArray, List.set_cons_zero, List.set_cons_succ, List.getElem_toArray, List.getElem_cons_zero, List.getElem_cons_succ]
                refine wpAnyH_take (i := 14) (v := ?_) rfl (by kernel_rfl) (by kernel_rfl) (by kernel_rfl) (fun _ _ _ h => h) (Or.inl ⟨by rfl, fun w hSw => by (try dsimp only at hSw); go_simp; (try with_reducible rfl)⟩) (by assumption) ?_
                try simp only [Act.put, List.setIfInBounds_toArray, List.set_cons_zero, List.set_cons_succ, List.getElem_toArray, List.getElem_cons_zero, List.getElem_cons_succ]
                refine wpAnyH_take (i := 16) (v := ?_) rfl (by kernel_rfl) (by kernel_rfl) (by kernel_rfl) (fun _ _ _ h => h) (Or.inl ⟨by rfl, fun w hSw => by (try dsimp only at hSw); go_simp; (try with_reducible rfl)⟩) (by assumption) ?_
                try simp only [Act.put, List.setIfInBounds_toArray, List.set_cons_zero, List.set_cons_succ, List.getElem_toArray, List.getElem_cons_zero, List.getElem_cons_succ]
                refine wpAnyH_take (i := 17) (v := ?_) rfl (by kernel_rfl) (by kernel_rfl) (by kernel_rfl) (fun _ _ _ h => h) (Or.inl ⟨by rfl, fun w hSw => by (try dsimp only at hSw); go_simp; (try with_reducible rfl)⟩) (by assumption) ?_
                try simp only [Act.put, List.setIfInBounds_toArray, List.set_cons_zero, List.set_cons_succ, List.getElem_toArray, List.getElem_cons_zero, List.getElem_cons_succ]
                refine wpAnyH_ready (rs := [15]) (by kernel_rfl) (by simp) ?_
                refine AllReadyH.cons rfl (fun K hK => ?_) AllReadyH.nil
                go_simp
                go_at_call 21
                refine (impl_owners (rn5) ra7 rc8 (rl6) ky9 1 _ (by unfold maxLen; omega) (by unfold maxLen; omega) I12.out.at_).mono ?_
                rintro e wz2 ⟨oa, oc, rfl, ho, hb⟩
                replace I12 := Lib.hid (I12.out.below hb)
                replace V14 := Lib.hid (V14.out.below hb)
                replace O18 := Lib.hid (O18.out.below hb)
                replace D0 := Lib.hid (D0.out.below hb)
                clear hb
                have OW := Lib.hid ho.at_
                clear ho
                go_wp2_with fail
                refine hK.out _ _ (by exact ⟨V14.out.c0, V14.out.c1⟩) (fun hHeld => ?_)
                clear hK K
                try simp only [Act.put, List.setIfInBounds_toArray, List.set_cons_zero, List.set_cons_succ, List.getElem_toArray, List.getElem_cons_zero, List.getElem_cons_succ]
                refine wpAnyH_ready (rs := [18]) (by kernel_rfl) (by simp) ?_
                refine AllReadyH.cons rfl (fun K hK => ?_) AllReadyH.nil
                go_simp
                go_at_call 19
                refine (lw_first (rn5) (rl6) oa qa15 oc qc16 ky9 _ HO1.out OW.out O18.out.at_).mono ?_
                rintro e wz3 ⟨rfl, hb⟩
                replace I12 := Lib.hid (I12.out.below hb)
                replace V14 := Lib.hid (V14.out.below hb)
                replace O18 := Lib.hid (O18.out.below hb)
                replace D0 := Lib.hid (D0.out.below hb)
                clear hb OW
                go_wp2_with fail
                refine hK.out _ _ (by exact ⟨V14.out.c0, V14.out.c1⟩) (fun hHeld => ?_)
                clear hK K
                try simp only [Act.put, List.setIfInBounds_toArray, List.set_cons_zero, List.set_cons_succ, List.getElem_toArray, List.getElem_cons_zero, List.getElem_cons_succ]
                refine wpAnyH_take (i := 19) (v := ?_) rfl (by kernel_rfl) (by kernel_rfl) (by kernel_rfl) (fun _ _ _ h => h) (Or.inl ⟨by rfl, fun w hSw => by (try dsimp only at hSw); go_simp; (try with_reducible rfl)⟩) (by assumption) ?_
                try simp only [Act.put, List.setIfInBounds_toArray, List.set_cons_zero, List.set_cons_succ, List.getElem_toArray, List.getElem_cons_zero, List.getElem_cons_succ]
                refine wpAnyH_take (i := 20) (v := ?_) rfl (by kernel_rfl) (by kernel_rfl) (by kernel_rfl) (fun _ _ _ h => h) (Or.inl ⟨by rfl, fun w hSw => by (try dsimp only at hSw); go_simp; (try with_reducible rfl)⟩) (by assumption) ?_
                try simp only [Act.put, List.setIfInBounds_toArray, List.set_cons_zero, List.set_cons_succ, List.getElem_toArray, List.getElem_cons_zero, List.getElem_cons_succ]
                refine wpAnyH_take (i := 21) (v := ?_) rfl (by kernel_rfl) (by kernel_rfl) (by kernel_rfl) (fun _ _ _ h => h) (Or.inl ⟨by rfl, fun w hSw => by (try dsimp only at hSw); go_simp; (try with_reducible rfl)⟩) (by assumption) ?_
                try simp only [Act.put, List.setIfInBounds_toArray, List.set_cons_zero, List.set_cons_succ, List.getElem_toArray, List.getElem_cons_zero, List.getElem_cons_succ]
                refine wpAnyH_done (by kernel_rfl) ?_ _
                go_wp2_with fail
                go_meet
                exact ⟨rfl, D0.out⟩
        case rest =>
          as_aux_lemma =>
            obtain ⟨rfl, hb⟩ := hcut
            obtain ⟨wk20, hwk⟩ : ∃ x, x = wc := ⟨_, rfl⟩
            subst hwk
            replace B := Lib.hid (B.out.below hb)
            replace I12 := Lib.hid (I12.out.below hb)
            replace V14 := Lib.hid (V14.out.below hb)
            replace O18 := Lib.hid (O18.out.below hb)
            replace D44 := Lib.hid (D44.out.below hb)
            replace O50 := Lib.hid (O50.out.below hb)
            have Z20 := hb.size
            clear hb
            clear V14
            clear I12
            clear O18
            go_wp2
            go_loopw [21] (fun i wr => ∃ k : Nat, k ≤ (standV (rn32) (rl33) ky36 nk37 (dl38)).length ∧ i = .int .i64 k ∧ Below wk20.heap.size wk20 wr) (fun i _ => (standV (rn32) (rl33) ky36 nk37 (dl38)).length - (intOf i).toNat)
            case atStart => exact ⟨0, Nat.zero_le _, rfl, Below.refl _ _⟩
            case round =>
              obtain ⟨k, hk, rfl, hb⟩ := hrel
              have HB := Lib.hid hb
              clear hb
              by_cases hlt : k < (standV (rn32) (rl33) ky36 nk37 (dl38)).length
              · have i1 : (k : Int) < ((standV (rn32) (rl33) ky36 nk37 (dl38)).length : Int) := by omega
                go_wp2
                go_loopw [22] (fun j wr2 => ∃ m : Nat, m ≤ (dl38).length ∧ j = .int .i64 m ∧ Below wk20.heap.size wk20 wr2) (fun j _ => (dl38).length - (intOf j).toNat)
                case atStart => exact ⟨0, Nat.zero_le _, rfl, HB.out⟩
                case round =>
                  obtain ⟨m, hm, rfl, hb2⟩ := hrel
                  have HB2 := Lib.hid hb2
                  clear hb2 HB
                  by_cases hlt2 : m < (dl38).length
                  · obtain ⟨gp, op, hp, _, cm⟩ := zcell (RowAt.mono (by decide) D44.out.at_ HB2.out) hlt2
                    obtain ⟨gq, oq, ha, _, ck⟩ := zcell (RowAt.mono (by decide) O50.out.at_ HB2.out) hlt
                    have hne := stand_ne HS.out.2 hlt2 hlt
                    generalize (dl38)[m] = x at cm hne
                    generalize (standV (rn32) (rl33) ky36 nk37 (dl38))[k] = y at ck hne
                    subst hp
                    subst ha
                    have j1 : (m : Int) < ((dl38).length : Int) := by omega
                    have i0 : (0 : Int) ≤ (m : Int) := by omega
                    have i2 : (0 : Int) ≤ (k : Int) := by omega
                    have e1 : (x == y) = false := by simp [hne]
                    clear hne
                    go_wp2_with fail
                    go_region_held3 (fun w' => w'.cell? ⟨gp, op + m, none⟩ = some (.int .i64 x) ∧ w'.cell? ⟨gq, oq + k, none⟩ = some (.int .i64 y)) (first | exact ⟨cm, ck⟩ | assumption | go_keep) (fail)
                    go_wp2
                    go_roundw
                    case rel => exact ⟨m + 1, by omega, by go_num, HB2.out.drew⟩
                    case measure => go_light; simp [intOf]; omega
                  · have j1 : ¬ (m : Int) < ((dl38).length : Int) := by omega
                    go_wp2
                    go_loopw [23] (fun j wr3 => ∃ m : Nat, m ≤ k ∧ j = .int .i64 m ∧ Below wk20.heap.size wk20 wr3) (fun j _ => k - (intOf j).toNat)
                    case atStart => exact ⟨0, Nat.zero_le _, rfl, HB2.out⟩
                    case round =>
                      obtain ⟨m3, hm3, rfl, hb3⟩ := hrel
                      clear HB2
                      have HB2 := Lib.hid hb3
                      clear hb3 j1
                      by_cases hlt2 : m3 < k
                      · have hml : m3 < (standV (rn32) (rl33) ky36 nk37 (dl38)).length := by omega
                        obtain ⟨gq, oq, ha, cm, ck⟩ := zcells (RowAt.mono (by decide) O50.out.at_ HB2.out) hml hlt
                        have hne := nodup_ne HS.out.1 hml hlt hlt2
                        generalize (standV (rn32) (rl33) ky36 nk37 (dl38))[m3] = x at cm hne
                        generalize (standV (rn32) (rl33) ky36 nk37 (dl38))[k] = y at ck hne
                        subst ha
                        have j1 : (m3 : Int) < ((standV (rn32) (rl33) ky36 nk37 (dl38)).length : Int) := by omega
                        have i0 : (0 : Int) ≤ (m3 : Int) := by omega
                        have i2 : (0 : Int) ≤ (k : Int) := by omega
                        have j2 : (m3 : Int) < (k : Int) := by omega
                        have e1 : (x == y) = false := by simp [hne]
                        clear hne
                        go_wp2_with fail
                        go_region_held3 (fun w' => w'.cell? ⟨gq, oq + m3, none⟩ = some (.int .i64 x) ∧ w'.cell? ⟨gq, oq + k, none⟩ = some (.int .i64 y)) (first | exact ⟨cm, ck⟩ | assumption | go_keep) (fail)
                        go_wp2
                        go_roundw
                        case rel => exact ⟨m3 + 1, by omega, by go_num, HB2.out.drew⟩
                        case measure => go_light; simp [intOf]; omega
                      · have j1 : ¬ (m3 : Int) < (k : Int) := by omega
                        go_wp2
                        go_roundw
                        case rel => exact ⟨k + 1, by omega, by go_num, HB2.out⟩
                        case measure => go_light; simp [intOf]; omega
              · have i1 : ¬ (k : Int) < ((standV (rn32) (rl33) ky36 nk37 (dl38)).length : Int) := by omega
                have hb := HB.out
                replace B := Lib.hid (B.out.below hb)
                replace D44 := Lib.hid (D44.out.below hb)
                replace O50 := Lib.hid (O50.out.below hb)
                clear hb HB
                go_wp2
                go_ret
                exact ⟨rfl, B.out⟩
end Go.Proofs.YteibkoaepgdmlaaDoor.Rg
