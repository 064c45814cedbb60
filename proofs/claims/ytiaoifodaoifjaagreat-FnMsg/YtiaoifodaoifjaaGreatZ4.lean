/- Parts of a law: SeenMap, SeenHas, Labels, Set5, SpecIll, SeenBytes, SeenJoin, SeenPut, SeenLw. Conditions: on sizes, as each says. -/
import Derived.Test.YtiaoifodaoifjaaGreatZ1
import Derived.Test.YtiaoifodaoifjaaGreatZ3
import Derived.Deep.RegionHeld3
import Derived.ScopeJumps
import Derived.WalkArith
import Derived.Test.YtiaoifodaoifjaaGreatZ2
set_option linter.unusedSimpArgs false
set_option linter.unusedVariables false
namespace Go.Proofs.YtiaoifodaoifjaaGreat.Mk
open Go.RowKit
theorem wf_small {n : Int} (h0 : -1000000000000 ≤ n) (h1 : n ≤ 1000000000000) : (Lit.int .i64 n).wf = true := by
  simp [Lit.wf, IntKind.min, IntKind.max, IntKind.bits, IntKind.signed]; omega
theorem right_get {l : List (Int × Int)} (h : rightB l = true) (k : Nat) (hk : k < l.length) : 1 ≤ l[k].1 ∧ l[k].1 ≤ 5 ∧ 1 ≤ l[k].2 ∧ l[k].2 ≤ 1000000 :=
  (dotB_iff _).1 (right_dot h _ (List.getElem_mem hk))
def Mapped (w : World) (l : List (Int × Int)) (e : Ending) (w' : World) : Prop :=
  e = .returned (.map (some w.heap.size)) ∧ MapOf w' w.heap.size 5 (mapL l) ∧ Below w.heap.size w w'
set_option maxRecDepth 100000 in
set_option maxHeartbeats 1000000 in
theorem byNode (a : Option Addr) (cap : Nat) (l : List (Int × Int)) (w : World) (hr : rightB l = true) (h : MarksAt w a l) :
    Calls Tryz.prog 111 #[.slice a l.length cap] w (Mapped w l) := by
  have H := jj h
  have HR := jj hr
  have h5 := right_len hr
  clear h hr
  have hmm : ∀ w, (Instr.makeMap 161 (some (.int .i64 5))).run Tryz.prog w = .ok (.map (some w.heap.size)) (w.alloc (.map #[] 0)) := fun w => by simp [Instr.makeMap, asInt, asIntOf]
  go_enter Tryz.func111, Tryz.ntmps111
  go_wp2
  go_loopw [9] (fun i wr => ∃ (k : Nat), k ≤ l.length ∧ i = .int .i64 k ∧ MapOf wr w.heap.size k (mapL (l.take k)) ∧ Below w.heap.size w wr) (fun i _ => l.length - (intOf i).toNat)
  case atStart => exact ⟨0, Nat.zero_le _, rfl, mapOf_made w, (Below.refl _ _).alloc (Nat.le_refl _) _⟩
  case round =>
    obtain ⟨k, hk, rfl, hm, hbel⟩ := hrel
    have HM := jj hm
    have HB := jj hbel
    clear hm hbel
    by_cases hlt : k < l.length
    · obtain ⟨g, off, rfl, hg, c0, c1⟩ := (H.out.mono HB.out).cells hlt
      have hq := right_get HR.out k hlt
      have HS := jj (mapL_take l k hlt)
      generalize l[k] = m at c0 c1 HS hq
      obtain ⟨x, y⟩ := m
      simp only at c0 c1 hq
      obtain ⟨w2, hrun, hm2, hw2⟩ := (HM.out.alloc (.cells #[.int .i64 x, .int .i64 y] 63)).store (x, y) (wf_small (by simp only; omega) (by simp only; omega)) (by unfold maxLen; omega)
      have HM2 := jj hm2
      have HB2 := jj ((HB.out.alloc HB.out.size (.cells #[.int .i64 x, .int .i64 y] 63)).trans (hw2.below (Nat.le_refl _) (by have := HB.out.size; simp; omega)))
      clear hm2 hw2
      unfold mv at hrun
      simp only at hrun
      go_wp2
      go_roundw
      case rel => exact ⟨k + 1, by omega, by go_num, by rw [HS.out]; exact HM2.out, HB2.out⟩
      case measure => go_light; simp [intOf]; omega
    · have he : l.take k = l := List.take_of_length_le (by omega)
      rw [he] at HM
      clear he
      go_wp2
      go_ret
      exact ⟨rfl, HM.out.mono (by omega), HB.out⟩
theorem seenOf_right {l : List (Int × Int)} (h : rightB l = true) (n : Int) : seenOf l n = (at_ (mapL l) n).2 := by unfold seenOf; rw [if_pos h, mapL_at h]
set_option maxRecDepth 100000 in
theorem impl_seenOf (a : Option Addr) (cap : Nat) (l : List (Int × Int)) (n : Int) (w : World) (hl : l.length ≤ maxLen) (hn : (Lit.int .i64 n).wf = true) (h : MarksAt w a l) :
    Calls Tryz.prog 102 #[.slice a l.length cap, .int .i64 n] w fun e w' => e = .returned (.int .i64 (seenOf l n)) ∧ Below w.heap.size w w' := by
  have H := jj h
  have HN := jj hn
  clear h hn
  cases hr : rightB l
  · have hs : seenOf l n = 0 := by unfold seenOf; rw [hr]; rfl
    have HS := jj hs
    clear hs
    go_enter Tryz.func102, Tryz.ntmps102
    go_wp2_with (go_at_call 79; refine (seenRight _ _ l _ hl H.out).mono ?_; rintro e w' ⟨rfl, hb⟩)
    go_ret
    exact ⟨ret_i64 HS.out.symm, hb⟩
  · have HS := jj (seenOf_right hr n)
    have HR := jj hr
    go_enter Tryz.func102, Tryz.ntmps102
    go_wp2_with (go_at_call 79; refine (seenRight _ _ l _ hl H.out).mono ?_; rintro e w' ⟨rfl, hb⟩)
    refine (byNode a cap l _ HR.out (H.out.mono hb)).mono ?_
    rintro e w2 ⟨rfl, hm, hb2⟩
    have hlook := hm.look HN.out
    have HB := jj (hb.trans (hb2.mono hb.size))
    clear hm hb hb2
    generalize at_ (mapL l) n = m at hlook HS
    obtain ⟨x, y⟩ := m
    unfold mv at hlook
    simp only at hlook
    have hf := field1 x y
    go_wp2
    go_ret
    exact ⟨ret_i64 HS.out.symm, HB.out⟩
open Go.RowKit
theorem hasB_eq {l : List (Int × Int)} {m : Int × Int} (h : dotB m = true) : hasB l m = decide (m.2 ≤ seenOf l m.1) := by
  unfold hasB seenOf
  have := (dotB_iff m).1 h
  cases hr : rightB l
  · rw [if_neg (by simp)]; simp; omega
  · rw [if_pos rfl, h]; simp
theorem hasB_no {l : List (Int × Int)} {m : Int × Int} (h : dotB m = false) : hasB l m = false := by unfold hasB; rw [h]; simp
set_option maxRecDepth 100000 in
set_option maxHeartbeats 1000000 in
theorem impl_seenHas (a : Option Addr) (cap : Nat) (l : List (Int × Int)) (m : Int × Int) (w : World) (hl : l.length ≤ maxLen) (hw : (Lit.int .i64 m.1).wf = true) (h : MarksAt w a l) :
    Calls Tryz.prog 80 #[.slice a l.length cap, mv m] w fun e w' => e = .returned (.bool (hasB l m)) ∧ Below w.heap.size w w' := by
  have H := jj h
  have HW := jj hw
  clear h hw
  cases hd : dotB m
  · have HH := jj (hasB_no (l := l) hd)
    obtain ⟨x, y⟩ := m
    unfold mv
    simp only at HW
    go_enter Tryz.func80, Tryz.ntmps80
    go_wp2_with fail
    refine wp_region_held_drew (S := fun w' => w'.cell? ⟨w.heap.size, 0, none⟩ = some (.int .i64 x) ∧ w'.cell? ⟨w.heap.size, 1, none⟩ = some (.int .i64 y) ∧ w.heap.size < w'.heap.size) (by kernel_rfl) (by first | (simp [*]; done) | (go_split_ands; refine ⟨?_, ?_, ?_⟩; (rw [hb.cell (by first | (simp; done) | assumption)]; assumption); (rw [hb.cell (by first | (simp; done) | assumption)]; assumption); (have := hb.size; simp at this ⊢; omega))) (fun hHeld => ?_)
    refine tk 0 (v := ?_) ?_
    try walk_nrm
    refine rd 1 (fun K hK => ?_)
    go_simp
    go_at_call 101; refine (dotRight (x, y) _).mono ?_; rintro e w1 ⟨rfl, hb⟩; have HB1 := jj (((Below.refl _ w).alloc (Nat.le_refl _) _).drew.trans (hb.mono (by simp)))
    go_wp2_with fail
    refine hK.out _ _ (by first | (simp [*]; done) | (go_split_ands; refine ⟨?_, ?_, ?_⟩; (rw [hb.cell (by first | (simp; done) | assumption)]; assumption); (rw [hb.cell (by first | (simp; done) | assumption)]; assumption); (have := hb.size; simp at this ⊢; omega))) (fun hHeld => ?_)
    clear hK K
    try walk_nrm
    refine tk 2 (v := ?_) ?_
    try walk_nrm
    refine tu 3 ?_
    try walk_nrm
    refine tu 4 ?_
    try walk_nrm
    refine tu 5 ?_
    try walk_nrm
    refine tu 6 ?_
    try walk_nrm
    refine tu 7 ?_
    try walk_nrm
    refine tu 8 ?_
    try walk_nrm
    refine tu 9 ?_
    try walk_nrm
    refine tk 10 (v := ?_) ?_
    try walk_nrm
    refine tk 11 (v := ?_) ?_
    try walk_nrm
    refine rx ?_
    go_wp2
    go_ret
    exact ⟨ret_bool HH.out.symm, HB1.out⟩
  · have HH := jj (hasB_eq (l := l) hd)
    obtain ⟨x, y⟩ := m
    unfold mv
    simp only at HW HH
    go_enter Tryz.func80, Tryz.ntmps80
    go_wp2_with fail
    refine wp_region_held_drew (S := fun w' => w'.cell? ⟨w.heap.size, 0, none⟩ = some (.int .i64 x) ∧ w'.cell? ⟨w.heap.size, 1, none⟩ = some (.int .i64 y) ∧ w.heap.size < w'.heap.size) (by kernel_rfl) (by first | (simp [*]; done) | (go_split_ands; refine ⟨?_, ?_, ?_⟩; (rw [hb.cell (by first | (simp; done) | assumption)]; assumption); (rw [hb.cell (by first | (simp; done) | assumption)]; assumption); (have := hb.size; simp at this ⊢; omega))) (fun hHeld => ?_)
    refine tk 0 (v := ?_) ?_
    try walk_nrm
    refine rd 1 (fun K hK => ?_)
    go_simp
    go_at_call 101; refine (dotRight (x, y) _).mono ?_; rintro e w1 ⟨rfl, hb⟩; have HB1 := jj (((Below.refl _ w).alloc (Nat.le_refl _) _).drew.trans (hb.mono (by simp)))
    go_wp2_with fail
    refine hK.out _ _ (by first | (simp [*]; done) | (go_split_ands; refine ⟨?_, ?_, ?_⟩; (rw [hb.cell (by first | (simp; done) | assumption)]; assumption); (rw [hb.cell (by first | (simp; done) | assumption)]; assumption); (have := hb.size; simp at this ⊢; omega))) (fun hHeld => ?_)
    clear hK K
    try walk_nrm
    refine tk 2 (v := ?_) ?_
    try walk_nrm
    refine tk 3 (v := ?_) ?_
    try walk_nrm
    refine tk 4 (v := ?_) ?_
    try walk_nrm
    refine tk 5 (v := ?_) ?_
    try walk_nrm
    refine tk 6 (v := ?_) ?_
    try walk_nrm
    refine tk 7 (v := ?_) ?_
    try walk_nrm
    refine rd 8 (fun K hK => ?_)
    go_simp
    go_at_call 102; refine (impl_seenOf a cap l x _ hl HW.out (H.out.mono HB1.out)).mono ?_; rintro e w2 ⟨rfl, hb⟩; have HB2 := jj (HB1.out.trans (hb.mono HB1.out.size))
    go_wp2_with fail
    refine hK.out _ _ (by first | (simp [*]; done) | (go_split_ands; refine ⟨?_, ?_, ?_⟩; (rw [hb.cell (by first | (simp; done) | assumption)]; assumption); (rw [hb.cell (by first | (simp; done) | assumption)]; assumption); (have := hb.size; simp at this ⊢; omega))) (fun hHeld => ?_)
    clear hK K
    try walk_nrm
    refine tk 9 (v := ?_) ?_
    try walk_nrm
    refine tk 10 (v := ?_) ?_
    try walk_nrm
    refine tk 11 (v := ?_) ?_
    try walk_nrm
    refine rx ?_
    go_wp2
    go_ret
    exact ⟨ret_bool HH.out.symm, HB2.out⟩
end Go.Proofs.YtiaoifodaoifjaaGreat.Mk
namespace Go.Proofs.YtiaoifodaoifjaaGreat.La
open Go
def exitTo (J : Nat → Act → World → Prop) (Q : Exit → Act → World → Prop) : Exit → Act → World → Prop
  | .goto l, a, w => J l a w
  | e, a, w => Q e a w
section
variable {P : Program} {a : Act} {w : World} {Q : Exit → Act → World → Prop}
theorem wp_scope_labels {c : Code} (J : Nat → Act → World → Prop) (μ : Nat → Act → World → Nat)
    (first : c.wp P (exitTo J Q) a w)
    (pass : ∀ l a w, J l a w → ∃ rest, findLabel c l = some rest ∧ rest.wp P (exitTo (fun l' a' w' => J l' a' w' ∧ μ l' a' w' < μ l a w) Q) a w) : (Code.scope c).wp P Q a w := by
  intro b k cs
  have key : ∀ n l a w, μ l a w = n → J l a w → ∃ rest, findLabel c l = some rest ∧ ∃ e a' w', Q e a' w' ∧ Arrives P (lone (b.at a (.code rest :: .inScope c :: k)) cs w) b k cs e a' w' := by
    intro n
    induction n using Nat.strongRecOn with
    | _ n ih =>
      intro l a w hn hJ
      obtain ⟨rest, hf, hwp⟩ := pass l a w hJ
      refine ⟨rest, hf, ?_⟩
      obtain ⟨e, a₁, w₁, hq, harr⟩ := hwp b (.inScope c :: k) cs
      cases e with
      | normal => exact ⟨.normal, a₁, w₁, hq, Steps.trans harr (.one step_inScope)⟩
      | exit id => exact ⟨.exit id, a₁, w₁, hq, fun k' hk => harr k' (by simp [Go.exitTo, hk])⟩
      | goto l' =>
        obtain ⟨hJ', hlt⟩ := hq
        obtain ⟨rest', hf', e₂, a₂, w₂, hq₂, harr₂⟩ := ih _ (by omega) l' a₁ w₁ rfl hJ'
        have hg : gotoIn l' (.inScope c :: k) = some (.code rest' :: .inScope c :: k) := by simp [gotoIn, hf']
        exact ⟨e₂, a₂, w₂, hq₂, .of_steps (harr _ hg) harr₂⟩
      | ret => exact ⟨_, a₁, w₁, hq, harr⟩
      | panic ch => exact ⟨_, a₁, w₁, hq, harr⟩
      | outgrown => exact ⟨_, a₁, w₁, hq, harr⟩
  obtain ⟨e, a₁, w₁, hq, harr⟩ := first b (.inScope c :: k) cs
  cases e with
  | normal => exact ⟨.normal, a₁, w₁, hq, .head step_scope (Steps.trans harr (.one step_inScope))⟩
  | exit id => exact ⟨.exit id, a₁, w₁, hq, fun k' hk => .head step_scope (harr k' (by simp [Go.exitTo, hk]))⟩
  | goto l' =>
    obtain ⟨rest', hf', e₂, a₂, w₂, hq₂, harr₂⟩ := key _ l' a₁ w₁ rfl hq
    have hg : gotoIn l' (.inScope c :: k) = some (.code rest' :: .inScope c :: k) := by simp [gotoIn, hf']
    exact ⟨e₂, a₂, w₂, hq₂, .of_steps (.head step_scope (harr _ hg)) harr₂⟩
  | ret => exact ⟨_, a₁, w₁, hq, .of_steps (.one step_scope) harr⟩
  | panic ch => exact ⟨_, a₁, w₁, hq, .of_steps (.one step_scope) harr⟩
  | outgrown => exact ⟨_, a₁, w₁, hq, .of_steps (.one step_scope) harr⟩
end
end Go.Proofs.YtiaoifodaoifjaaGreat.La
namespace Go.Proofs.YtiaoifodaoifjaaGreat.Sb
open Go.RowKit Go.Proofs.YtiaoifodaoifjaaGreat.Mk Go.Proofs.YtiaoifodaoifjaaGreat.Rw
theorem cells_set5 {w : World} {g : Nat} {u0 u1 u2 u3 u4 : Value} (h : Cells w g [u0, u1, u2, u3, u4]) (v0 v1 v2 v3 v4 : Value) :
    Cells (((((w.setCell ⟨g, 0, none⟩ v0).setCell ⟨g, 1, none⟩ v1).setCell ⟨g, 2, none⟩ v2).setCell ⟨g, 3, none⟩ v3).setCell ⟨g, 4, none⟩ v4) g [v0, v1, v2, v3, v4] :=
  ((((h.set 0 (by simp) v0).set 1 (by simp) v1).set 2 (by simp) v2).set 3 (by simp) v3).set 4 (by simp) v4
theorem within_set5 (w : World) (g : Nat) (v0 v1 v2 v3 v4 : Value) :
    Within g (g + 1) w (((((w.setCell ⟨g, 0, none⟩ v0).setCell ⟨g, 1, none⟩ v1).setCell ⟨g, 2, none⟩ v2).setCell ⟨g, 3, none⟩ v3).setCell ⟨g, 4, none⟩ v4) :=
  ((((one_store w g 0 v0).trans (one_store _ g 1 v1)).trans (one_store _ g 2 v2)).trans (one_store _ g 3 v3)).trans (one_store _ g 4 v4)
open Go.RowKit Go.Proofs.YtiaoifodaoifjaaGreat.Mk Go.Proofs.YtiaoifodaoifjaaGreat.Rw
theorem spec_ill (c : Int) (w : World) : Calls Tryz.prog 61 #[.int .i64 c] w fun e w' => e = .returned (.agg #[.slice none 0 0, .slice none 0 0, .int .i64 0, .int .i64 0, .int .i64 c]) ∧ Below w.heap.size w w' := by
  go_enter Tryz.func61, Tryz.ntmps61
  go_wp2
  have XF := Cells.new w #[.slice none 0 0, .slice none 0 0, .int .i64 0, .int .i64 0, .int .i64 c] 65
  obtain ⟨q0, q1, q2, q3, q4, -⟩ := Cells.c5 (show Cells _ _ [.slice none 0 0, .slice none 0 0, .int .i64 0, .int .i64 0, .int .i64 c] from XF)
  exact bodyPost_ret (v := .agg #[.slice none 0 0, .slice none 0 0, .int .i64 0, .int .i64 0, .int .i64 c]) (by simp [results, Tryz.results61, go_sem, q0, q1, q2, q3, q4]) rfl ⟨rfl, step_alloc w _⟩
end Go.Proofs.YtiaoifodaoifjaaGreat.Sb
namespace Go.Proofs.YtiaoifodaoifjaaGreat.Mk
open Go.RowKit
theorem impl_ret_str {a b : ByteArray} (h : a = b) : Ending.returned (.string a) = .returned (.string b) := by rw [h]
theorem impl_wf_dot {m : Int × Int} (h : dotB m = true) : (Lit.int .i64 m.1).wf = true ∧ (Lit.int .i64 m.2).wf = true := by
  have := (dotB_iff m).1 h
  exact ⟨WalkArith.wf_i64 (by omega), WalkArith.wf_i64 (by omega)⟩
set_option maxRecDepth 100000 in
set_option maxHeartbeats 1000000 in
theorem markBytes (m : Int × Int) (w : World) (hd : dotB m = true) :
    Calls Tryz.prog 84 #[mv m] w fun e w' => e = .returned (.string (markS m)) ∧ Below w.heap.size w w' := by
  have hm := (dotB_iff m).1 hd
  have hw := impl_wf_dot hd
  have HE : Hid (markS m = Nu.numS m.1 ++ Nu.numS m.2) := jj rfl
  rw [HE.out]
  clear HE hd
  obtain ⟨x, y⟩ := m
  unfold mv
  simp only at hm hw ⊢
  have Wx := jj hw.1
  have Wy := jj hw.2
  have sx := Nu.numS_size_of x (by omega)
  have sy := Nu.numS_size_of y (by omega)
  clear hw
  have V := jj ((Var2.new w (.int .i64 x) (.int .i64 y) 63).below (step_drew _))
  have D := jj ((show Base w _ from step_alloc w (.cells #[.int .i64 x, .int .i64 y] 63)).below (step_drew _))
  go_enter Tryz.func84, Tryz.ntmps84
  go_wp2_with fail
  refine wp_region_held_drew (S := (fun w' => w'.cell? ⟨w.heap.size, 0, none⟩ = some (.int .i64 x) ∧ w'.cell? ⟨w.heap.size, 1, none⟩ = some (.int .i64 y))) (by kernel_rfl) (by exact ⟨V.out.c0, V.out.c1⟩) (fun hHeld => ?_)
  refine tk 0 (v := ?_) ?_
  try walk_nrm
  refine tk 1 (v := ?_) ?_
  try walk_nrm
  refine tk 3 (v := ?_) ?_
  try walk_nrm
  refine tk 4 (v := ?_) ?_
  try walk_nrm
  refine rd 2 (fun K hK => ?_)
  go_simp
  go_at_call 20
  refine (Nu.impl_PutNum x Wx.out _).mono ?_
  rintro e w1 ⟨rfl, hb⟩
  rw [Nu.numS_mk]
  replace V := jj (V.out.below hb)
  replace D := jj (D.out.below hb)
  clear hb
  go_wp2_with fail
  refine hK.out _ _ (by exact ⟨V.out.c0, V.out.c1⟩) (fun hHeld => ?_)
  clear hK K
  try walk_nrm
  refine rd 5 (fun K hK => ?_)
  go_simp
  go_at_call 20
  refine (Nu.impl_PutNum y Wy.out _).mono ?_
  rintro e w2 ⟨rfl, hb⟩
  rw [Nu.numS_mk]
  replace V := jj (V.out.below hb)
  replace D := jj (D.out.below hb)
  clear hb
  go_wp2_with fail
  refine hK.out _ _ (by exact ⟨V.out.c0, V.out.c1⟩) (fun hHeld => ?_)
  clear hK K
  try walk_nrm
  refine rd 6 (fun K hK => ?_)
  go_simp
  have V2 := V
  have hb := step_alloc w2 (.cells #[.string (Nu.numS x), .string (Nu.numS y)] 9)
  replace V := jj (V.out.below hb)
  clear hb
  refine hK.out _ _ (by exact ⟨V.out.c0, V.out.c1⟩) (fun hHeld => ?_)
  clear hK K
  try walk_nrm
  refine rd 7 (fun K hK => ?_)
  go_simp
  go_at_call 19
  refine (Nu.joined_two (Nu.numS x) (Nu.numS y) w2 (by omega)).mono ?_
  rintro e w3 ⟨rfl, hb⟩
  have V0 := jj (V.out)
  replace V := jj (V2.out.below hb)
  replace D := jj (D.out.below hb)
  clear hb
  go_wp2_with fail
  refine hK.out _ _ (by exact ⟨V.out.c0, V.out.c1⟩) (fun hHeld => ?_)
  clear hK K
  try walk_nrm
  refine tk 8 (v := ?_) ?_
  try walk_nrm
  refine rx ?_
  go_wp2
  go_ret
  exact ⟨rfl, D.out⟩
theorem infoS : (Tryz.prog.info? 9).map (fun i => (i.zero, i.size, i.bytes)) = some (some (.string ⟨#[]⟩), 1, 16) := by kernel_rfl
theorem wpList_append_str (w0 : World) {ops : Array Oper} {rest : List Oper} {o : Oper} {a : Act} {Q : Exit → Act → World → Prop} (hg : o.guard = none) (s x : Operand)
    (hop : o.op = .call { callee := .builtin .append, args := #[s, x], argTypes := #[88, 88] }) (B : Nat) (v : Value) (l : List ByteArray) (m : ByteArray) (hs : a.eval s = v) (G : Nat) (hG : w0.heap.size = G)
    (hx : a.eval x = .slice (some ⟨G, 0, none⟩) 1 1) (hown : w0.ownsRow B 9 1 v l.length (l.map .string)) (hl : l.length ≤ 1000000) (hB : B ≤ w0.heap.size)
    (h : ∀ v' w', w'.ownsRow B 9 1 v' (l ++ [m]).length ((l ++ [m]).map .string) → Below B w0 w' → wpList Tryz.prog ops Q rest (a.put o.dst v') w') :
    wpList Tryz.prog ops Q (o :: rest) a (w0.alloc (.cells #[.string m] 9)) := by
  subst hG
  obtain ⟨i0, hi, hz0, hz1, hz2⟩ := info_parts infoS
  refine wpList_append_own _ hg s x 88 hop B 9 i0 _ 1 16 Tryz.underlying88 hi hz0 hz1 hz2 rfl (by decide) v l.length (l.map .string) hs (hown.alloc _) ⟨w0.heap.size, 0, none⟩ 1 1 [.string m] hx rfl
    (World.news_of_block (cs := #[.string m]) (heap_alloc_new w0 _)) (fun u hu => by simp at hu; subst hu; rfl) (by unfold maxLen; omega) (by omega) (by simp; omega) (fun v' w' h1 h2 _ => h v' w' ?_ ?_)
  · rw [List.map_append, List.length_append]; exact h1
  · exact ((Below.refl B w0).alloc hB _).grown h2 (by simp; omega) (fun k hk => (hown.lt k hk).1)
theorem own_strs {w : World} {B n : Nat} {v : Value} {l : List ByteArray} (h : w.ownsRow B 9 1 v n (l.map .string)) (h0 : 0 < n) :
    ∃ g cap, v = .slice (some ⟨g, 0, none⟩) l.length cap ∧ ∀ i (hi : i < l.length), w.cell? ⟨g, i, none⟩ = some (.string l[i]) := by
  obtain ⟨hlen, hc⟩ := h
  have hn : n = l.length := by simp at hlen; omega
  subst hn
  rcases hc with ⟨rfl, h1⟩ | ⟨g, cap, cur, rfl, hg, hh, hn, hm, hs, ht⟩
  · omega
  · refine ⟨g, cap, rfl, fun i hi => ?_⟩
    have e : cur[i]? = some (.string l[i]) := by
      have h1 : (cur.toList.take (l.length * 1))[i]? = some (.string l[i]) := by rw [ht]; simp [hi]
      rw [List.getElem?_take_of_lt (by omega)] at h1
      simpa using h1
    simp [World.cell?, hh, e]
def partsOf (l : List (Int × Int)) (k : Nat) : List ByteArray := Nu.numS l.length :: (l.take k).map markS
theorem partsOf_next (l : List (Int × Int)) (k : Nat) (h : k < l.length) : partsOf l (k + 1) = partsOf l k ++ [markS l[k]] := by
  unfold partsOf; rw [List.take_succ_eq_append_getElem h, List.map_append]; rfl
theorem cat_parts (l : List (Int × Int)) (k : Nat) : Nu.cat (partsOf l k) = Nu.enc (Nu.fold l.length) ++ (l.take k).flatMap markB := by
  unfold partsOf Nu.cat
  rw [List.map_cons, List.flatten_cons, Nu.numS_data, List.map_map]
  rw [List.flatMap_def, show List.map ((fun x => x.data.toList) ∘ markS) (l.take k) = (l.take k).map markB from List.map_congr_left fun m _ => markS_data m]
theorem own_lit (w : World) (s : ByteArray) (B : Nat) (hB : B ≤ w.heap.size) : (w.alloc (.cells #[.string s] 9)).ownsRow B 9 1 (.slice (some ⟨w.heap.size, 0, none⟩) 1 1) [s].length ([s].map .string) :=
  ⟨rfl, .inr ⟨w.heap.size, 1, #[.string s], rfl, hB, heap_alloc_new w _, Nat.le_refl _, by unfold maxLen; omega, rfl, rfl⟩⟩
set_option maxRecDepth 100000 in
set_option maxHeartbeats 2000000 in
theorem impl_seenBytes (a : Option Addr) (cap : Nat) (l : List (Int × Int)) (w : World) (hl : l.length ≤ maxLen) (h : MarksAt w a l) :
    Calls Tryz.prog 52 #[.slice a l.length cap] w fun e w' => e = .returned (.string (bytesV l)) ∧ Below w.heap.size w w' := by
  have H := jj h
  clear h
  cases hr : rightB l
  · have HE := jj (bytesV_no hr)
    go_enter Tryz.func52, Tryz.ntmps52
    go_wp2_with (go_at_call 79; refine (seenRight _ _ l _ hl H.out).mono ?_; rintro e w' ⟨rfl, hb⟩)
    go_ret
    exact ⟨impl_ret_str HE.out.symm, hb⟩
  · have HR := jj hr
    have h5 := right_len hr
    have HE := jj (bytesV_yes hr)
    go_enter Tryz.func52, Tryz.ntmps52
    go_wp2_with fail
    refine (seenRight a cap l _ hl H.out).mono ?_
    rintro e w1 ⟨rfl, hb⟩
    have HB1 := jj hb
    clear hb
    go_wp2_with fail
    refine (Nu.impl_PutNum (l.length : Int) (WalkArith.wf_i64 (by omega)) _).mono ?_
    rintro e w2 ⟨rfl, hb2⟩
    rw [Nu.numS_mk]
    have HB2 := jj (HB1.out.trans (hb2.mono HB1.out.size))
    clear hb2
    go_wp2
    go_loopw [3, 15] (fun z i wr => ∃ (k : Nat), k ≤ l.length ∧ i = .int .i64 k ∧ wr.ownsRow w.heap.size 9 1 z (partsOf l k).length ((partsOf l k).map .string) ∧ Below w.heap.size w wr) (fun _ i _ => l.length - (intOf i).toNat)
    case atStart => exact ⟨0, Nat.zero_le _, rfl, own_lit w2 _ _ HB2.out.size, HB2.out.alloc HB2.out.size _⟩
    case round =>
      obtain ⟨k, hk, rfl, ho, hbel⟩ := hrel
      have HO := jj ho
      have HB := jj hbel
      clear ho hbel
      have HL : Hid ((partsOf l k).length ≤ 6) := jj (by unfold partsOf; simp; omega)
      by_cases hlt : k < l.length
      · obtain ⟨g, off, rfl, hg, c0, c1⟩ := (H.out.mono HB.out).cells hlt
        have hd := right_dot HR.out _ (List.getElem_mem hlt)
        have HS := jj (partsOf_next l k hlt)
        have HD := jj hd
        clear hd
        generalize l[k] = m at c0 c1 HS HD
        obtain ⟨x, y⟩ := m
        simp only at c0 c1
        go_wp2_with fail
        refine (markBytes (x, y) _ HD.out).mono ?_
        rintro e w3 ⟨rfl, hb3⟩
        have HO3 := jj (own_below (HO.out.alloc (.cells #[.int .i64 x, .int .i64 y] 63)) hb3)
        have HB3 := jj ((HB.out.alloc HB.out.size (.cells #[.int .i64 x, .int .i64 y] 63)).trans (hb3.mono (by have := HB.out.size; simp; omega)))
        clear hb3
        generalize markS (x, y) = p at HS ⊢
        go_wp2_with (at_builtin; refine wpList_append_str _ rfl _ _ rfl w.heap.size _ (partsOf l k) p (by rfl) w3.heap.size (by rfl) (by rfl) HO3.out (by have := HL.out; omega) HB3.out.size ?_; intro v' w4 ho4 hb4)
        have HO4 := jj ho4
        have HB4 := jj (HB3.out.trans hb4)
        clear ho4 hb4
        go_wp2
        go_roundw
        case rel => exact ⟨k + 1, by omega, by go_num, by rw [HS.out]; exact HO4.out, HB4.out⟩
        case measure => go_light; simp [intOf]; omega
      · obtain ⟨g, cp, rfl, hc⟩ := own_strs HO.out (by unfold partsOf; simp)
        have hcat : Nu.cat (partsOf l k) = seenB l := by rw [cat_parts, List.take_of_length_le (by omega)]; rfl
        have hle := flat_length_le l (right_dot HR.out)
        have hsz : (Nu.cat (partsOf l k)).length ≤ 1000000 := by
          have h2 := Nu.enc_len10 (Nu.fold l.length) (Nu.fold_lt _ (by omega))
          rw [hcat]; unfold seenB; rw [List.length_append]; omega
        have HC := jj hc
        have HT := jj hcat
        have HZ := jj hsz
        clear hc hcat hsz hle
        go_wp2_with fail
        refine (Nu.joined_any g (partsOf l k) cp _ (by have := HL.out; omega) HZ.out HC.out).mono ?_
        rintro e w5 ⟨rfl, hb5⟩
        rw [HT.out, ← HE.out]
        go_wp2
        go_ret
        exact ⟨rfl, HB.out.trans (hb5.mono HB.out.size)⟩
open Go.RowKit
theorem Within.alloc {lo hi : Nat} {a w : World} (h : Within lo hi a w) (o : Obj) : Within lo hi a (w.alloc o) :=
  h.trans ⟨rfl, rfl, rfl, by simp, fun k hk _ => Below.heap_alloc _ _ _ hk⟩
open Go.RowKit
set_option maxRecDepth 100000 in
set_option maxHeartbeats 1000000 in
theorem lw_seen (a b : Option Addr) (cap cap' : Nat) (l l' : List (Int × Int)) (w : World) (hl : l.length ≤ maxLen) (hl' : l'.length ≤ maxLen) (h : MarksAt w a l) (h' : MarksAt w b l') :
    Calls Tryz.prog 68 #[.slice a l.length cap, .slice b l'.length cap'] w fun e w' => e = .returned (.bool (decide (l = l'))) ∧ Below w.heap.size w w' := by
  have H := jj h
  have H' := jj h'
  clear h h'
  unfold maxLen at hl hl'
  by_cases hn : l.length = l'.length
  · have hd : ((l.length : Int) == (l'.length : Int)) = true := by simp [hn]
    have HL := jj hn
    go_enter Tryz.func68, Tryz.ntmps68
    go_wp2
    go_loopw [5] (fun i wr => ∃ (k : Nat), k ≤ l.length ∧ i = .int .i64 k ∧ (∀ j (h1 : j < l.length) (h2 : j < l'.length), j < k → l[j] = l'[j]) ∧ Below w.heap.size w wr) (fun i _ => l.length - (intOf i).toNat)
    case atStart => exact ⟨0, Nat.zero_le _, rfl, fun j _ _ h => absurd h (Nat.not_lt_zero _), Below.refl _ _⟩
    case round =>
      obtain ⟨k, hk, rfl, hsame, hbel⟩ := hrel
      have HB := jj hbel
      have HS := jj hsame
      clear hbel hsame
      by_cases hlt : k < l.length
      · have hlt' : k < l'.length := HL.out ▸ hlt
        obtain ⟨g, off, rfl, hg, c0, c1⟩ := (H.out.mono HB.out).cells hlt
        obtain ⟨g', off', rfl, hg', c0', c1'⟩ := (H'.out.mono HB.out).cells hlt'
        have hX : l[k] = l'[k] → ∀ j (h1 : j < l.length) (h2 : j < l'.length), j < k + 1 → l[j] = l'[j] := fun he j h1 h2 hj => by
          by_cases hjk : j < k
          · exact HS.out j h1 h2 hjk
          · have : j = k := by omega
            subst this; exact he
        have hY : l[k] ≠ l'[k] → l ≠ l' := fun hne he => hne (by subst he; rfl)
        have HX := jj hX
        have HY := jj hY
        clear hX hY
        generalize l[k] = m at c0 c1 HX HY
        generalize l'[k] = m' at c0' c1' HX HY
        obtain ⟨x, y⟩ := m
        obtain ⟨x', y'⟩ := m'
        simp only at c0 c1 c0' c1'
        have i0 : (0 : Int) ≤ (k : Int) := by omega
        have i1 : (k : Int) < (l.length : Int) := by omega
        have i2 : (k : Int) < (l'.length : Int) := by omega
        by_cases hx : x = x' ∧ y = y'
        · obtain ⟨rfl, rfl⟩ := hx
          have HZ := jj (HX.out rfl)
          clear HX HY
          go_wp2_with fail
          go_region_held3 (fun w' => w'.cell? ⟨g, off + k * 2, none⟩ = some (.int .i64 x) ∧ w'.cell? ⟨g, off + k * 2 + 1, none⟩ = some (.int .i64 y) ∧ w'.cell? ⟨g', off' + k * 2, none⟩ = some (.int .i64 x) ∧ w'.cell? ⟨g', off' + k * 2 + 1, none⟩ = some (.int .i64 y)) (go_keep) (fail)
          have HQ := jj HB.out.drew
          go_wp2
          go_roundw
          case rel => exact ⟨k + 1, by omega, by go_num, HZ.out, HQ.out⟩
          case measure => go_light; simp [intOf]; omega
        · have hll : decide (l = l') = false := by
            simp only [decide_eq_false_iff_not]
            exact HY.out (by intro he; injection he with h1 h2; exact hx ⟨h1, h2⟩)
          have HN := jj hll
          clear hll
          by_cases h1 : x = x'
          · subst h1
            have h2 : (y == y') = false := by simp; exact fun h => hx ⟨rfl, h⟩
            clear hx
            go_wp2_with fail
            go_region_held3 (fun w' => w'.cell? ⟨g, off + k * 2, none⟩ = some (.int .i64 x) ∧ w'.cell? ⟨g, off + k * 2 + 1, none⟩ = some (.int .i64 y) ∧ w'.cell? ⟨g', off' + k * 2, none⟩ = some (.int .i64 x) ∧ w'.cell? ⟨g', off' + k * 2 + 1, none⟩ = some (.int .i64 y')) (go_keep) (fail)
            have HQ := jj HB.out.drew
            go_wp2
            go_ret
            exact ⟨ret_bool HN.out.symm, HQ.out⟩
          · have h2 : (x == x') = false := by simp; exact h1
            clear hx h1
            go_wp2_with fail
            go_region_held3 (fun w' => w'.cell? ⟨g, off + k * 2, none⟩ = some (.int .i64 x) ∧ w'.cell? ⟨g, off + k * 2 + 1, none⟩ = some (.int .i64 y) ∧ w'.cell? ⟨g', off' + k * 2, none⟩ = some (.int .i64 x') ∧ w'.cell? ⟨g', off' + k * 2 + 1, none⟩ = some (.int .i64 y')) (go_keep) (fail)
            have HQ := jj HB.out.drew
            go_wp2
            go_ret
            exact ⟨ret_bool HN.out.symm, HQ.out⟩
      · have he : l = l' := List.ext_getElem HL.out (fun j h1 h2 => HS.out j h1 h2 (by omega))
        have HN := jj (show decide (l = l') = true from decide_eq_true he)
        clear he
        go_wp2
        go_ret
        exact ⟨ret_bool HN.out.symm, HB.out⟩
  · have hd : ((l.length : Int) == (l'.length : Int)) = false := by simp; omega
    have HN := jj (show decide (l = l') = false from by simp only [decide_eq_false_iff_not]; exact fun he => hn (by rw [he]))
    go_enter Tryz.func68, Tryz.ntmps68
    go_wp2
    go_ret
    exact ⟨ret_bool HN.out.symm, Below.refl _ _⟩
end Go.Proofs.YtiaoifodaoifjaaGreat.Mk
