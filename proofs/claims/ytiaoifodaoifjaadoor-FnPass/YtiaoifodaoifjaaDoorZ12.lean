/- Parts of a law: DrawKey, SeenJoinS, SeenPutS, SeenRow, PassOfI, LwAt, Seg8, CameOpen, LaidR. Conditions: on sizes, as each says. -/
import Derived.Test.YtiaoifodaoifjaaDoorZ1
import Derived.Test.YtiaoifodaoifjaaDoorZ11
import Derived.Test.YtiaoifodaoifjaaDoorZ4
import Derived.Test.YtiaoifodaoifjaaDoorZ2
import Derived.Test.YtiaoifodaoifjaaDoorZ9
import Derived.WalkArith
import Derived.Test.YtiaoifodaoifjaaDoorZ8
import Derived.Test.YtiaoifodaoifjaaDoorZ3
import Derived.Deep.RegionWith
import Derived.ProofKit
import Derived.OpenShut
import Derived.ChangeSame
import Derived.ChangeVars
import Derived.JoinedOf
import Derived.LaidLaws
import Derived.LaidHandle
import Derived.Stop.Joined
import Derived.Test.YtiaoifodaoifjaaDoorZ10
set_option linter.unusedSimpArgs false
set_option linter.unusedVariables false
namespace Go.Proofs.YtiaoifodaoifjaaDoor.Mk
open Go.RowKit Dr
def STab (w : World) (g : Nat) (l : List ByteArray) : Prop := (∀ i (h : i < l.length), w.cell? ⟨g, i, none⟩ = some (.string l[i])) ∧ g < w.heap.size
theorem STab.within {w w' : World} {g lo hi : Nat} {l : List ByteArray} (h : STab w g l) (hw : Within lo hi w w') (ha : g < lo ∨ hi ≤ g) : STab w' g l :=
  ⟨fun i hi => (World.cell?_of_block (a := ⟨g, i, none⟩) (hw.block g h.2 ha)).trans (h.1 i hi), Nat.lt_of_lt_of_le h.2 hw.size⟩
theorem STab.new (w : World) (l : List ByteArray) (t : TypeId) : STab (w.alloc (.cells (l.map Value.string).toArray t)) w.heap.size l :=
  ⟨fun i hi => by rw [World.cell?_alloc_mark]; simp [hi], by simp⟩
def DrawnKey (w : World) (B g : Nat) (e : Ending) (w' : World) : Prop :=
  ∃ t : ByteArray, t.size ≤ 4 ∧ e = .returned (.string t) ∧ HasSrc w' B g ∧ Within g (g + 1) w w'
set_option maxRecDepth 100000 in
theorem pick_draw (w : World) (B g b n : Nat) (l : List ByteArray) (hn : l.length = n) (h1 : 1 < n) (h2 : n ≤ 1000) (hl : ∀ t ∈ l, t.size ≤ 4) (hb : b ≠ g) (hT : STab w b l) (h : HasSrc w B g) :
    Calls Tryd.prog 42 #[.pointer (some ⟨g, 0, none⟩), .slice (some ⟨b, 0, none⟩) n n] w (DrawnKey w B g) := by
  subst hn
  have H := jj (n_draw w B g l.length h1 (by omega) h)
  have T := jj hT
  have HL := jj hl
  clear h hT hl
  go_enter Tryd.func42, Tryd.ntmps42
  go_wp2_with fail
  refine H.out.mono ?_
  rintro e w1 ⟨r, hr, rfl, hs, hg⟩
  have hw := within_grown hg
  have hc := (T.out.within hw (by omega)).1 r hr
  have ht := HL.out _ (List.getElem_mem hr)
  have HS := jj hs
  have HW := jj hw
  have t0 : (0 : Int) ≤ (r : Int) := by omega
  have t1 : (r : Int) < (l.length : Int) := by omega
  clear hs hg hw
  generalize l[r] = t at hc ht
  go_wp2
  go_ret
  exact ⟨t, ht, rfl, HS.out, HW.out⟩
theorem keys2 : ∀ t ∈ [(⟨#[]⟩ : ByteArray), ⟨#[65]⟩], t.size ≤ 4 := by
  intro t ht; simp at ht; rcases ht with rfl | rfl <;> decide
theorem keys4 : ∀ t ∈ [(⟨#[99, 97, 114, 116]⟩ : ByteArray), ⟨#[117, 115, 101, 114]⟩, ⟨#[120]⟩, ⟨#[121]⟩], t.size ≤ 4 := by
  intro t ht; simp at ht; rcases ht with rfl | rfl | rfl | rfl <;> decide
set_option maxRecDepth 100000 in
set_option maxHeartbeats 1000000 in
theorem key_draw (w : World) (B g : Nat) (h : HasSrc w B g) : Calls Tryd.prog 19 #[.pointer (some ⟨g, 0, none⟩)] w (DrawnKey w B g) := by
  have H := jj (one_draw w B g 20 (by omega) (by omega) h)
  clear h
  go_enter Tryd.func19, Tryd.ntmps19
  go_wp2_with fail
  refine H.out.mono ?_
  rintro e w1 ⟨r, rfl, hs, hg⟩
  have HW := jj (within_grown hg)
  have HS := jj hs
  have z := hs.lt
  clear hs hg H
  cases r
  · go_wp2_with fail
    have HA := jj (HS.out.grown (World.grownBy_alloc w1 (.cells #[.string ⟨#[99, 97, 114, 116]⟩, .string ⟨#[117, 115, 101, 114]⟩, .string ⟨#[120]⟩, .string ⟨#[121]⟩] 9) none) (by simp) (by simp) (by omega))
    refine (pick_draw _ B g w1.heap.size 4 [⟨#[99, 97, 114, 116]⟩, ⟨#[117, 115, 101, 114]⟩, ⟨#[120]⟩, ⟨#[121]⟩] rfl (by omega) (by omega) keys4 (by omega) (STab.new w1 _ _) HA.out).mono ?_
    rintro e w2 ⟨t, ht, rfl, hs, hw⟩
    have HS2 := jj hs
    have HW2 := jj ((HW.out.onto ((Below.refl _ _).alloc (Nat.le_refl _) _)).trans hw)
    clear hs hw
    go_wp2
    go_ret
    exact ⟨t, ht, rfl, HS2.out, HW2.out⟩
  · go_wp2_with fail
    have HA := jj (HS.out.grown (World.grownBy_alloc w1 (.cells #[.string ⟨#[]⟩, .string ⟨#[65]⟩] 9) none) (by simp) (by simp) (by omega))
    refine (pick_draw _ B g w1.heap.size 2 [⟨#[]⟩, ⟨#[65]⟩] rfl (by omega) (by omega) keys2 (by omega) (STab.new w1 _ _) HA.out).mono ?_
    rintro e w2 ⟨t, ht, rfl, hs, hw⟩
    have HS2 := jj hs
    have HW2 := jj ((HW.out.onto ((Below.refl _ _).alloc (Nat.le_refl _) _)).trans hw)
    clear hs hw
    go_wp2
    go_ret
    exact ⟨t, ht, rfl, HS2.out, HW2.out⟩
open Go.RowKit
theorem spec_max (x y : Int) (w : World) : Calls Tryd.prog 80 #[.int .i64 x, .int .i64 y] w fun e w' => e = .returned (.int .i64 (imax x y)) ∧ w = w' := by
  by_cases h : y < x
  all_goals
    go_enter Tryd.func80, Tryd.ntmps80
    go_wp2
    all_goals go_ret
    all_goals exact ⟨ret_i64 (by unfold imax; split <;> omega), rfl⟩
open Go.RowKit
def GivesRow (w : World) (l : List (Int × Int)) (e : Ending) (w' : World) : Prop :=
  ∃ v, e = .returned v ∧ w'.ownsRow w.heap.size 64 2 v l.length (flat l) ∧ Below w.heap.size w w'
def GivesOutRow (w : World) (l : List (Int × Int)) (code : Int) (e : Ending) (w' : World) : Prop :=
  ∃ v, e = .returned (.agg #[v, .int .i64 code]) ∧ w'.ownsRow w.heap.size 64 2 v l.length (flat l) ∧ Below w.heap.size w w'
theorem own_none (w : World) (B : Nat) : w.ownsRow B 64 2 (.slice none 0 0) ([] : List (Int × Int)).length (flat []) := ⟨rfl, .inl ⟨rfl, rfl⟩⟩
theorem own_base {w : World} {B B' e size n : Nat} {v : Value} {xs : List Value} (h : w.ownsRow B e size v n xs) (hB : B' ≤ B) : w.ownsRow B' e size v n xs := by
  obtain ⟨h1, h2⟩ := h
  refine ⟨h1, ?_⟩
  rcases h2 with h2 | ⟨g, cap, cur, hv, hg, r⟩
  · exact .inl h2
  · exact .inr ⟨g, cap, cur, hv, by omega, r⟩
set_option maxRecDepth 100000 in
set_option maxHeartbeats 1000000 in
theorem spec_join_row (a b : Option Addr) (cap cap' : Nat) (l l' : List (Int × Int)) (w : World) (hl : l.length ≤ maxLen) (hl' : l'.length ≤ maxLen) (h : MarksAt w a l) (h' : MarksAt w b l') :
    Calls Tryd.prog 66 #[.slice a l.length cap, .slice b l'.length cap'] w (GivesRow w (joinTo l l' 5)) := by
  have H := jj h
  have H' := jj h'
  clear h h'
  go_enter Tryd.func66, Tryd.ntmps66
  go_wp2
  go_loopw [5, 6] (fun v i wr => ∃ (k : Nat), k ≤ 5 ∧ i = .int .i64 ((k : Int) + 1) ∧ wr.ownsRow w.heap.size 64 2 v (joinTo l l' k).length (flat (joinTo l l' k)) ∧ Below w.heap.size w wr) (fun _ i _ => 6 - (intOf i).toNat)
  case atStart => exact ⟨0, by omega, rfl, World.ownsRow_made w #[] 0 (Nat.le_refl _) (by unfold maxLen; omega) rfl, (Below.refl _ _).alloc (Nat.le_refl _) _⟩
  case round =>
    obtain ⟨k, hk, rfl, ho, hbel⟩ := hrel
    have HO := jj ho
    have HB := jj hbel
    clear ho hbel
    by_cases hlt5 : k < 5
    · have HS := jj (joinTo_succ l l' k)
      have HP : Hid (jpick l l' ((k : Int) + 1) = if 0 < imax (ofL l ((k : Int) + 1)) (ofL l' ((k : Int) + 1)) then some ((k : Int) + 1, imax (ofL l ((k : Int) + 1)) (ofL l' ((k : Int) + 1))) else none) := jj rfl
      have HL : Hid ((joinTo l l' k).length ≤ 5) := jj (Nat.le_trans (List.length_filterMap_le _ _) (by simp; omega))
      go_wp2_with fail
      refine (spec_of a cap l ((k : Int) + 1) _ hl (H.out.mono HB.out)).mono ?_
      rintro e w' ⟨rfl, rfl⟩
      go_wp2_with fail
      refine (spec_of b cap' l' ((k : Int) + 1) _ hl' (H'.out.mono HB.out)).mono ?_
      rintro e w' ⟨rfl, rfl⟩
      go_wp2_with fail
      refine (spec_max _ _ _).mono ?_
      rintro e w' ⟨rfl, rfl⟩
      generalize imax (ofL l ((k : Int) + 1)) (ofL l' ((k : Int) + 1)) = y at HP ⊢
      by_cases hy : 0 < y
      · have HE := jj (HP.out.trans (if_pos hy))
        go_wp2_with (at_builtin; refine wpList_append_mark _ rfl _ _ rfl w.heap.size _ (joinTo l l' k) ((k : Int) + 1, y) (by rfl) wr.heap.size (by rfl) (by rfl) HO.out (by have := HL.out; omega) HB.out.size ?_; intro v' w1 ho1 hb1)
        have HO1 := jj ho1
        have HB1 := jj (HB.out.trans hb1)
        clear ho1 hb1
        go_wp2
        go_roundw
        case rel => exact ⟨k + 1, by omega, by go_num, by rw [HS.out, HE.out]; exact HO1.out, HB1.out⟩
        case measure => go_light; simp [intOf]; omega
      · have HE := jj (HP.out.trans (if_neg hy))
        go_wp2
        go_roundw
        case rel => exact ⟨k + 1, by omega, by go_num, by rw [HS.out, HE.out]; simpa using HO.out, HB.out⟩
        case measure => go_light; simp [intOf]; omega
    · have hk5 : k = 5 := by omega
      subst hk5
      go_wp2
      go_ret
      exact ⟨_, rfl, HO.out, HB.out⟩
set_option maxRecDepth 100000 in
set_option maxHeartbeats 1000000 in
theorem spec_seenPut_row (a : Option Addr) (cap : Nat) (l : List (Int × Int)) (m : Int × Int) (w : World) (hl : l.length ≤ maxLen) (h : MarksAt w a l) :
    Calls Tryd.prog 43 #[.slice a l.length cap, mv m] w (GivesOutRow w (putL l m) (putC l m)) := by
  have H := jj h
  clear h
  by_cases hs : l.length ≤ 400
  · have hs' : (l.length : Int) ≤ 400 := by omega
    cases hr : rightB l
    · have HL := jj (putL_no (m := m) (Or.inl hr))
      have HC := jj (putC_form (m := m) hs (Or.inl hr))
      obtain ⟨x, y⟩ := m
      unfold mv
      rw [HL.out, HC.out]
      go_enter Tryd.func43, Tryd.ntmps43
      go_wp2_with fail
      refine (spec_seenRight a cap l _ hl (H.out.mono (((Below.refl _ w).alloc (Nat.le_refl _) _).alloc (by simp) _))).mono ?_
      rintro e w1 ⟨rfl, hb⟩
      have X1 := jj ((Boxed.new w x y _ _).below hb)
      obtain ⟨b0, b1, r0, r1, f0, f1, lt1⟩ := X1.out
      have HB := jj ((((Below.refl _ w).alloc (Nat.le_refl _) _).alloc (by simp) _).trans (hb.mono (by simp; omega)))
      clear hb
      go_wp2
      refine bodyPost_ret (v := .agg #[.slice none 0 0, .int .i64 1]) (by simp [results, Tryd.results43, go_sem, r0, r1, f0, f1]) rfl ?_
      exact ⟨_, rfl, own_none _ _, (HB.out.setCell (by simp) _).setCell (by simp) _⟩
    cases hd : dotB m
    · have HL := jj (putL_no (l := l) (Or.inr hd))
      have HC := jj (putC_form (l := l) hs (Or.inr hd))
      obtain ⟨x, y⟩ := m
      unfold mv
      rw [HL.out, HC.out]
      go_enter Tryd.func43, Tryd.ntmps43
      go_wp2_with fail
      refine (spec_seenRight a cap l _ hl (H.out.mono (((Below.refl _ w).alloc (Nat.le_refl _) _).alloc (by simp) _))).mono ?_
      rintro e w1 ⟨rfl, hb⟩
      have X1 := jj ((Boxed.new w x y _ _).below hb)
      obtain ⟨b0, b1, r0, r1, f0, f1, lt1⟩ := X1.out
      have HB := jj ((((Below.refl _ w).alloc (Nat.le_refl _) _).alloc (by simp) _).trans (hb.mono (by simp; omega)))
      clear hb
      go_wp2_with fail
      refine (spec_dot (x, y) _).mono ?_
      rintro e w2 ⟨rfl, hb2⟩
      have X2 := jj (X1.out.below hb2)
      clear b0 b1 r0 r1 f0 f1 lt1
      obtain ⟨b0, b1, r0, r1, f0, f1, lt1⟩ := X2.out
      have HB2 := jj (HB.out.trans (hb2.mono HB.out.size))
      clear hb2
      go_wp2
      refine bodyPost_ret (v := .agg #[.slice none 0 0, .int .i64 1]) (by simp [results, Tryd.results43, go_sem, r0, r1, f0, f1]) rfl ?_
      exact ⟨_, rfl, own_none _ _, (HB2.out.setCell (by simp) _).setCell (by simp) _⟩
    · have HL := jj (putL_yes hs hr hd)
      have HC := jj (putC_ok hs hr hd)
      obtain ⟨x, y⟩ := m
      unfold mv
      rw [HL.out, HC.out]
      go_enter Tryd.func43, Tryd.ntmps43
      go_wp2_with fail
      refine (spec_seenRight a cap l _ hl (H.out.mono (((Below.refl _ w).alloc (Nat.le_refl _) _).alloc (by simp) _))).mono ?_
      rintro e w1 ⟨rfl, hb⟩
      have X1 := jj ((Boxed.new w x y _ _).below hb)
      obtain ⟨b0, b1, r0, r1, f0, f1, lt1⟩ := X1.out
      have HB := jj ((((Below.refl _ w).alloc (Nat.le_refl _) _).alloc (by simp) _).trans (hb.mono (by simp; omega)))
      clear hb
      go_wp2_with fail
      refine (spec_dot (x, y) _).mono ?_
      rintro e w2 ⟨rfl, hb2⟩
      have X2 := jj (X1.out.below hb2)
      clear b0 b1 r0 r1 f0 f1 lt1
      obtain ⟨b0, b1, r0, r1, f0, f1, lt1⟩ := X2.out
      have HB2 := jj (HB.out.trans (hb2.mono HB.out.size))
      clear hb2
      go_wp2_with fail
      refine (spec_join_row a (some ⟨w2.heap.size, 0, none⟩) cap 1 l [(x, y)] _ hl (by unfold maxLen; simp) (H.out.mono (HB2.out.alloc HB2.out.size _)) (marks_one w2 x y)).mono ?_
      rintro e w3 ⟨v3, rfl, ho3, hb3⟩
      obtain ⟨a3, c3, rfl, _⟩ := own_row ho3
      have X3 := jj ((X2.out.below ((Below.refl _ _).alloc (Nat.le_refl _) _)).below hb3)
      clear b0 b1 r0 r1 f0 f1 lt1
      obtain ⟨b0, b1, r0, r1, f0, f1, lt1⟩ := X3.out
      have HB3 := jj ((HB2.out.alloc HB2.out.size (.cells #[.int .i64 x, .int .i64 y] 64)).trans (hb3.mono (by have := HB2.out.size; simp; omega)))
      have HO3 := jj (own_base (B' := w2.heap.size) ho3 (by simp))
      have q2 := X2.out.lt
      clear hb3 ho3
      go_wp2
      refine bodyPost_ret (v := .agg #[.slice a3 _ c3, .int .i64 0]) (by simp [results, Tryd.results43, go_sem, r0, r1, f0, f1]; rfl) rfl ?_
      refine ⟨_, rfl, own_base (own_same HO3.out fun q hq => ?_) (by omega), (HB3.out.setCell (by simp) _).setCell (by simp) _⟩
      have hq2 := (HO3.out.lt q hq).1
      rw [Below.heap_setCell _ _ _ _ (by simp only; omega), Below.heap_setCell _ _ _ _ (by simp only; omega)]
  · have hs' : (400 : Int) < (l.length : Int) := by omega
    have HL := jj (putL_great (m := m) hs)
    have HC := jj (putC_great (m := m) hs)
    obtain ⟨x, y⟩ := m
    unfold mv
    unfold maxLen at hl
    rw [HL.out, HC.out]
    go_enter Tryd.func43, Tryd.ntmps43
    go_wp2
    refine bodyPost_ret (v := .agg #[.slice none 0 0, .int .i64 2]) (by simp [results, Tryd.results43, go_sem]) rfl ?_
    exact ⟨_, rfl, own_none _ _, ((Below.refl _ w).alloc (Nat.le_refl _) _).alloc (by simp) _⟩
end Go.Proofs.YtiaoifodaoifjaaDoor.Mk
namespace Go.Proofs.YtiaoifodaoifjaaDoor.Sb
open Go.RowKit Go.Proofs.YtiaoifodaoifjaaDoor.Mk
set_option maxRecDepth 100000 in
theorem impl_passOf (y : ByteArray) (a : Option Addr) (cap : Nat) (l : List (Int × Int)) (w : World) (hy : y.size ≤ maxLen) (hl : l.length ≤ maxLen) (h : MarksAt w a l) :
    Calls Tryd.prog 6 #[.string y, .slice a l.length cap] w fun e w' => e = .returned (.string (passV y l)) ∧ Below w.heap.size w w' := by
  have H := jj h
  clear h
  cases hk : Nm.nameB y
  · have HV := jj (show passV y l = ⟨#[]⟩ from if_neg (by unfold passOk; rw [hk]; simp))
    have HK := jj hk
    clear hk
    go_enter Tryd.func6, Tryd.ntmps6
    go_wp2_with fail
    refine (Nm.impl_NameRight y hy _).mono ?_
    rintro e w1 ⟨rfl, rfl⟩
    rw [HK.out]
    go_wp2
    go_ret
    exact ⟨Se.ret_str HV.out.symm, Below.refl _ _⟩
  have HK := jj hk
  clear hk
  go_enter Tryd.func6, Tryd.ntmps6
  go_wp2_with fail
  refine (Nm.impl_NameRight y hy _).mono ?_
  rintro e w1 ⟨rfl, rfl⟩
  rw [HK.out]
  go_wp2_with fail
  refine (seenRight a cap l _ hl H.out).mono ?_
  rintro e w1 ⟨rfl, hb⟩
  have D := jj (show Base w w1 from hb)
  clear hb
  cases hr : rightB l
  · have HV := jj (show passV y l = ⟨#[]⟩ from if_neg (by unfold passOk; rw [hr]; simp))
    clear hr
    go_wp2
    go_ret
    exact ⟨Se.ret_str HV.out.symm, D.out⟩
  have HR := jj hr
  have HV := jj (show passV y l = Se.sealed (passBody y l) from if_pos (by unfold passOk; rw [hr, HK.out]; rfl))
  have hz := passBody_size HK.out hr
  have HE := jj (show Nu.putText y ++ bytesV l = passBody y l from rfl)
  have hs : (Nu.putText y).size + (bytesV l).size ≤ 200 := by rw [← ByteArray.size_append]; exact hz
  clear hr
  go_wp2_with fail
  refine (Nu.impl_PutText y hy _).mono ?_
  rintro e w2 ⟨rfl, hb⟩
  replace D := jj (D.out.below hb)
  clear hb
  go_wp2_with fail
  refine (impl_seenBytes a cap l _ hl (H.out.mono D.out)).mono ?_
  rintro e w3 ⟨rfl, hb⟩
  replace D := jj (D.out.below hb)
  clear hb
  go_wp2_with fail
  refine (Nu.joined_two (Nu.putText y) (bytesV l) _ (by omega)).mono ?_
  rintro e w4 ⟨rfl, hb⟩
  replace D := jj (D.out.below hb)
  clear hb
  rw [HE.out]
  go_wp2_with fail
  refine (Se.impl_Seal (passBody y l) (by unfold maxLen; omega) _).mono ?_
  rintro e w5 ⟨rfl, hb⟩
  replace D := jj (D.out.below hb)
  clear hb
  go_wp2
  go_ret
  exact ⟨Se.ret_str HV.out.symm, D.out⟩
end Go.Proofs.YtiaoifodaoifjaaDoor.Sb
namespace Go.Proofs.YtiaoifodaoifjaaDoor.Se
open Go.RowKit Nu Cr Dr
set_option maxHeartbeats 1000000 in
theorem lwAt (w : World) (B : Nat) (a : Option Addr) (len cap at_ most : Nat) (hl : len ≤ 1048576) (hm : most ≤ 1000000) (hat : at_ ≤ 1) (h : Bytes8 w B a len) :
    ∃ r : Nat, (r < most ∨ r = 0) ∧ ∀ W, Below B w W → Calls Tryd.prog 14 #[.slice a len cap, .int .i64 (at_ : Int), .int .i64 (most : Int)] W fun e w' => e = .returned (.int .i64 (r : Int)) ∧ W = w' := by
  by_cases h1 : most ≤ 1
  · refine ⟨0, .inr rfl, fun W hW => ?_⟩
    clear hW
    go_enter Tryd.func14, Tryd.ntmps14
    go_wp2
    go_ret
    exact ⟨rfl, rfl⟩
  have d1 : decide ((most : Int) ≤ 1) = false := by simp; omega
  by_cases h0 : len = 0
  · subst h0
    refine ⟨0, .inr rfl, fun W hW => ?_⟩
    clear hW
    go_enter Tryd.func14, Tryd.ntmps14
    go_wp2
    go_ret
    exact ⟨rfl, rfl⟩
  have d2 : ((len : Int) == 0) = false := by simp; omega
  rcases h with h | ⟨b, off, rfl, hb, hrow⟩
  · omega
  have hi : at_ % len < len := Nat.mod_lt _ (by omega)
  obtain ⟨z, hz, iz⟩ := hrow (at_ % len) hi
  have q1 : (at_ : Int).tmod (len : Int) = ((at_ % len : Nat) : Int) := by rw [Int.tmod_eq_emod_of_nonneg (by omega)]; omega
  have q2 : (at_ : Int) % (len : Int) = ((at_ % len : Nat) : Int) := by omega
  have q3 : (z : Int).tmod (most : Int) = ((z % most : Nat) : Int) := by rw [Int.tmod_eq_emod_of_nonneg (by omega)]; omega
  have q4 : (z : Int) % (most : Int) = ((z % most : Nat) : Int) := by omega
  generalize at_ % len = i at q1 q2 iz hi
  have hr : z % most < most := Nat.mod_lt _ (by omega)
  generalize z % most = r at q3 q4 hr
  refine ⟨r, .inl hr, fun W hW => ?_⟩
  have t1 : (i : Int) < (len : Int) := by omega
  replace iz := (hW.cell (p := ⟨b, off + i, none⟩) hb).trans iz
  clear hrow hW
  go_enter Tryd.func14, Tryd.ntmps14
  go_wp2
  go_ret
  exact ⟨rfl, rfl⟩
open Go.RowKit Nu Cr Dr
structure Seg8 (w : World) (g : Nat) (l : List UInt8) : Prop where
  cell : ∀ j (h : j < l.length), w.cell? ⟨g, j, none⟩ = some (bv l[j])
  free : ∀ j, j < l.length → w.frozen? ⟨g, j, none⟩ = false
theorem Seg8.string {w : World} {g : Nat} {l : List UInt8} (h : Seg8 w g l) (c : Nat) :
    (convert 22 9 (.slice (some ⟨g, 0, none⟩) l.length c)).run Tryd.prog w = .ok (.string ⟨l.toArray⟩) w := by
  refine run_convert_bytes_back (P := Tryd.prog) w 22 9 5 ⟨g, 0, none⟩ c l Tryd.underlying22 Tryd.underlying5 Tryd.underlying9 (fun j hj => ?_)
  have e : (⟨g, 0, none⟩ : Addr).add j = ⟨g, j, none⟩ := by unfold Addr.add; split <;> simp_all
  rw [e]; exact h.cell j hj
theorem Seg8.set {w : World} {g : Nat} {l : List UInt8} (h : Seg8 w g l) (k : Nat) (hk : k < l.length) (b : UInt8) : Seg8 (w.setCell ⟨g, k, none⟩ (bv b)) g (l.set k b) := by
  constructor
  · intro j hj
    have hj' : j < l.length := by simpa using hj
    by_cases e : j = k
    · subst e
      rw [World.cell?_setCell_same _ _ _ (h.cell j hj'), List.getElem_set_self]
    · rw [World.cell?_setCell_other _ _ _ _ (by intro hh; injection hh with _ h2; exact e h2.symm), h.cell j hj', List.getElem_set_ne (fun hh => e hh.symm)]
  · intro j hj
    rw [World.frozen?_setCell]; exact h.free j (by simpa using hj)
theorem Seg8.below {w w' : World} {g : Nat} {l : List UInt8} (h : Seg8 w g l) (hb : Below w.heap.size w w') (hg : g < w.heap.size) : Seg8 w' g l :=
  ⟨fun j hj => (hb.cell (p := ⟨g, j, none⟩) hg).trans (h.cell j hj), fun j hj => (hb.frozen (p := ⟨g, j, none⟩) hg).trans (h.free j hj)⟩
theorem bytes_of (w : World) (s : ByteArray) : ∃ (c : Nat) (w' : World), (convert 9 22 (.string s)).run Tryd.prog w = .ok (.slice (some ⟨w.heap.size, 0, none⟩) s.size c) w' ∧ Seg8 w' w.heap.size s.data.toList ∧ Below w.heap.size w w' ∧ w.heap.size < w'.heap.size := by
  refine ⟨_, _, run_bytes_of_string w 9 22 5 s Tryd.underlying9 Tryd.underlying22 Tryd.underlying5, ⟨fun j hj => ?_, fun j hj => ?_⟩, (Below.refl _ _).drew.alloc (Nat.le_refl _) _, by simp⟩
  · have := World.cell?_alloc_mark w.drew (bytesRow s (grownCap w s.size 0 5)) 5 ((bytesRow s (grownCap w s.size 0 5)).size, (bytesRow s (grownCap w s.size 0 5)).size + 1) j
    exact this.trans (bytesRow_at s _ j (by simpa using hj))
  · have := World.frozen?_alloc_mark w.drew (bytesRow s (grownCap w s.size 0 5)) 5 (bytesRow s (grownCap w s.size 0 5)).size ((bytesRow s (grownCap w s.size 0 5)).size + 1) j
    refine this.trans ?_
    have hle : s.data.toList.length ≤ (bytesRow s (grownCap w s.size 0 5)).size := by unfold bytesRow; simp
    simp; omega
end Go.Proofs.YtiaoifodaoifjaaDoor.Se
namespace Go.Proofs.YtiaoifodaoifjaaDoor.Dr
open Go.RowKit Go.WideShapes Go.ChangeShapes
set_option maxRecDepth 100000 in
theorem open_came {H : Type} {enc : TypeId × Value → H} {W : World} {r : Reach} {b0 : Nat} {v : Value} {d : DataW H} {p : List MemPlace}
    (hv : Value.okWide Tryd.prog W r b0 22 v) (h : DataW.Trod enc Tryd.prog W 0 (fun _ => true) true 22 v d p) :
    ∃ a len cap z, v = .slice a len cap ∧ Came W a len cap z := by
  obtain ⟨a, len, cap, rfl⟩ := okWide_slice Tryd.underlying22 hv
  obtain ⟨fuel, hf⟩ := h
  rcases open_ints Tryd.underlying22 Tryd.underlying5 (by kernel_rfl) hf with ⟨hcs, _⟩ | ⟨x, l, c, zs, hcs, _, hl, hm, hz, _, hcell, hwz⟩
  · simp [Value.cells] at hcs
    obtain ⟨rfl, rfl, rfl⟩ := hcs
    exact ⟨_, _, _, [], rfl, .inl ⟨rfl, rfl, rfl, rfl⟩⟩
  · simp [Value.cells] at hcs
    obtain ⟨rfl, rfl, rfl⟩ := hcs
    exact ⟨_, _, _, zs, rfl, .inr ⟨_, rfl, hl, hm, by simpa using hz, hcell, hwz⟩⟩
end Go.Proofs.YtiaoifodaoifjaaDoor.Dr
namespace Go.Proofs.YtiaoifodaoifjaaDoor.Laid
open Go.ChangeShapes Go.WideShapes Go.RowKit
abbrev laid : List (String × DataW Unit) := [("errors.errorType", Rows.laid_errors_errorType)]
theorem own : ownKnob Tryd.prog.godebug = none := by kernel_rfl
theorem var_at : Tryd.prog.globalNamed "errors.errorType" = some 0 := by kernel_rfl
theorem rtype_at : (Tryd.prog.cutTypes.find? (·.1 == "internal/reflectlite.rtype")).map (·.2) = some 113 := by kernel_rfl
theorem one_error : ((List.range 172).filter fun t => Tryd.prog.rowNamed t [101, 114, 114, 111, 114]) = [52] := by kernel_rfl
theorem types_size : Tryd.prog.types.size = 172 := by kernel_rfl
theorem errType {W : World} (h : laidMetH Tryd.prog laid W) : As.ErrType W := by
  have h' : laidMet Tryd.prog [] W ∧ handlesMet Tryd.prog laid W := h
  obtain ⟨name, u, ty, e1, e2, e3, e4, e5⟩ := h'.2 _ (List.mem_singleton.2 rfl)
  have en : name = [101, 114, 114, 111, 114] := (Option.some.inj e1).symm
  subst en
  obtain rfl := Option.some.inj (rtype_at.symm.trans e2)
  have hm : ty ∈ (List.range 172).filter fun t => Tryd.prog.rowNamed t [101, 114, 114, 111, 114] := List.mem_filter.2 ⟨List.mem_range.2 (by rw [← types_size]; exact e3), e4⟩
  rw [one_error] at hm
  obtain rfl := List.mem_singleton.1 hm
  have hh : typeHandle Tryd.prog 52 = As.hnd 52 := by kernel_rfl
  rw [hh] at e5
  simpa [As.ErrType] using World.var?_cell var_at e5 0
noncomputable def laidWorld (os : Os) : World :=
  let w0 := World.holding Tryd.prog os ⟨#[], #[], []⟩
  { w0 with heap := w0.heap.modify 0 fun
      | .cells _ t frozen => .cells #[.iface 113 (.agg #[As.hnd 52])] t frozen
      | o => o }
theorem laidWorld_met (os : Os) (args : Array Value) : laidMetH Tryd.prog laid ((laidWorld os).forCall (fun _ _ => 0) ⟨#[], args, []⟩).memory :=
  laidMetH_of_parts (laidMet_nil _ _) (by kernel_rfl)
end Go.Proofs.YtiaoifodaoifjaaDoor.Laid
