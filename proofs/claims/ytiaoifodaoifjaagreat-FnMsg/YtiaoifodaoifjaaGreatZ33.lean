/- Parts of a law: SetSyncS. Conditions: on sizes, as each says. -/
import Derived.Test.YtiaoifodaoifjaaGreatZ1
import Derived.Deep.RegionHeld3
import Derived.Test.YtiaoifodaoifjaaGreatZ13
import Derived.Test.YtiaoifodaoifjaaGreatZ4
import Derived.Test.YtiaoifodaoifjaaGreatZ27
import Derived.Test.YtiaoifodaoifjaaGreatZ24
import Derived.Test.YtiaoifodaoifjaaGreatZ16
set_option linter.unusedSimpArgs false
set_option linter.unusedVariables false
namespace Go.Proofs.YtiaoifodaoifjaaGreat.Sb
open Go.RowKit Go.Proofs.YtiaoifodaoifjaaGreat.Mk Go.Proofs.YtiaoifodaoifjaaGreat.Rw
def p1 (t : List Sib) (l : List (Int × Int)) (x : Sib) : Bool := hasDot t x.1 || !hasB l x.1
def p2 (t : List Sib) (l : List (Int × Int)) (x : Sib) : Bool := !hasDot t x.1 && !hasB l x.1
theorem grow_yes (P s : List Sib) (p : Sib → Bool) (k : Nat) (hk : k < s.length) (h : p s[k] = true) : collect (P ++ (s.take (k + 1)).filter p) = ins (collect (P ++ (s.take k).filter p)) s[k] := by
  rw [List.take_succ_eq_append_getElem hk, List.filter_append, ← List.append_assoc, ← collect_snoc]
  simp [List.filter_cons, h]
theorem grow_no (P s : List Sib) (p : Sib → Bool) (k : Nat) (hk : k < s.length) (h : p s[k] = false) : collect (P ++ (s.take (k + 1)).filter p) = collect (P ++ (s.take k).filter p) := by
  rw [List.take_succ_eq_append_getElem hk, List.filter_append]
  simp [List.filter_cons, h]
theorem p2_uns {la : List (Int × Int)} {sa sb : List Sib} (h : setB la sa = true) : sb.filter (p2 sa la) = uns sb la := by
  have hok := (of_decide_eq_true h : SetOk la sa).2.2.1
  unfold uns
  congr 1
  funext x
  unfold p2
  cases hd : hasDot sa x.1
  · rfl
  · obtain ⟨y, hy, he⟩ := List.any_eq_true.1 hd
    have := hok y hy
    unfold sibOk at this
    rw [Bool.and_eq_true] at this
    rw [← of_decide_eq_true he, this.1]; rfl
theorem ins_ne (s : List Sib) (x : Sib) : ¬ ins s x = [] := fun h => by have h3 := ins_length s x; rw [h] at h3; simp at h3
structure Syn (w wr : World) (O : Nat) (va vb : List Value) (ja : Option Addr) (jc : Nat) (J : List (Int × Int)) (qa : Option Addr) (qc : Nat) (S : List Sib) : Prop where
  xa : Cells wr w.heap.size va
  xb : Cells wr (w.heap.size + 1) vb
  xr : Cells wr (w.heap.size + 1 + 1) [.slice none 0 0, .slice none 0 0, .int .i64 0, .int .i64 0, .int .i64 0]
  xo : Cells wr O [.slice ja J.length jc, .slice qa S.length qc]
  jo : OwnIn wr (w.heap.size + 3) O ja J
  so : SOwnIn wr (O + 1) wr.heap.size qa S
  hh : Head qa S.length qc
  d : Base w wr
  ol : w.heap.size + 3 ≤ O
  row : wr.ownsRow (O + 1) 94 4 (.slice qa S.length qc) S.length (flatE 4 senc S)
  nz : S = [] → qa = none
section
variable {w wr w' : World} {O : Nat} {va vb : List Value} {ja : Option Addr} {jc : Nat} {J : List (Int × Int)} {qa : Option Addr} {qc : Nat} {S : List Sib}
theorem Syn.below (h : Syn w wr O va vb ja jc J qa qc S) (hb : Below wr.heap.size wr w') : Syn w w' O va vb ja jc J qa qc S :=
  ⟨h.xa.below hb, h.xb.below hb, h.xr.below hb, h.xo.below hb, h.jo.same (Same.of_below hb (by have := h.xo.lt; omega)), (ROwnIn.same h.so (Same.of_below hb (Nat.le_refl _))).wide (Nat.le_refl _) hb.size, h.hh, h.d.below hb, h.ol, own_below h.row hb, h.nz⟩
theorem Syn.put {ra : Option Addr} {rc : Nat} {S' : List Sib} (h : Syn w wr O va vb ja jc J qa qc S) (hb : Below wr.heap.size wr w') (hs : SOwnIn w' wr.heap.size w'.heap.size ra S') (hh : Head ra S'.length rc) (hrow : w'.ownsRow (wr.heap.size + 1) 94 4 (.slice ra S'.length rc) S'.length (flatE 4 senc S')) (hne : ¬ S' = []) :
    Syn w (w'.setCell ⟨O, 1, none⟩ (.slice ra S'.length rc)) O va vb ja jc J ra rc S' := by
  have h2 := h.below hb
  have hw := one_store w' O 1 (.slice ra S'.length rc)
  have ho := h.ol
  have hO := h.xo.lt
  refine ⟨h2.xa.within hw (by omega), h2.xb.within hw (by omega), h2.xr.within hw (by omega), h2.xo.set 1 (by simp) (.slice ra S'.length rc), h2.jo.same (fun b h3 h4 => hw.block b (by have := h2.xo.lt; omega) (.inl (by omega))), ?_, hh, h2.d.within hw (by omega), ho, row_le (own_within hrow hw (by omega)) (by omega), fun h => absurd h hne⟩
  have h5 := ROwnIn.same hs (fun b h3 h4 => hw.block b (by omega) (.inr (by omega)))
  exact h5.wide (by omega) (by rw [size_set]; exact Nat.le_refl _)
end
set_option maxRecDepth 100000 in
set_option maxHeartbeats 8000000 in
theorem spec_sync_row (am as_ bm bs_ : Option Addr) (c1 c2 c3 c4 : Nat) (la lb : List (Int × Int)) (sa sb : List Sib) (w : World) (hla : la.length ≤ maxLen) (hlb : lb.length ≤ maxLen) (hsa : sa.length ≤ maxLen) (hsb : sb.length ≤ maxLen)
    (hsA : setB la sa = true) (hsB : setB lb sb = true) (hma : MarksAt w am la) (hmb : MarksAt w bm lb) (hra : SibsAt w as_ sa) (hrb : SibsAt w bs_ sb) :
    Calls Tryz.prog 108 #[.agg #[.slice am la.length c1, .slice as_ sa.length c2], .agg #[.slice bm lb.length c3, .slice bs_ sb.length c4]] w (GivesSR w (synSeen la sa lb sb) (synSibs la sa lb sb) 0 0 (synC la sa lb sb)) := by
  have MA := jj hma
  have MB := jj hmb
  have RA := jj hra
  have RB := jj hrb
  clear hma hmb hra hrb
  have hL8 := setB_len hsA
  have hR8 := setB_len hsB
  have hr2 : rightB la = true ∧ rightB lb = true := ⟨setB_rite hsA, setB_rite hsB⟩
  have HJ := jj (show joinV la lb = joinTo la lb 5 from if_pos hr2)
  obtain ⟨W3, hW3⟩ : ∃ W3, ((w.alloc (.cells #[.slice am la.length c1, .slice as_ sa.length c2] 26)).alloc (.cells #[.slice bm lb.length c3, .slice bs_ sb.length c4] 26)).alloc (.cells #[.slice none 0 0, .slice none 0 0, .int .i64 0, .int .i64 0, .int .i64 0] 65) = W3 := ⟨_, rfl⟩
  have hb1 := step_alloc w (.cells #[.slice am la.length c1, .slice as_ sa.length c2] 26)
  have hb2 := step_alloc (w.alloc (.cells #[.slice am la.length c1, .slice as_ sa.length c2] 26)) (.cells #[.slice bm lb.length c3, .slice bs_ sb.length c4] 26)
  have hb3 := step_alloc ((w.alloc (.cells #[.slice am la.length c1, .slice as_ sa.length c2] 26)).alloc (.cells #[.slice bm lb.length c3, .slice bs_ sb.length c4] 26)) (.cells #[.slice none 0 0, .slice none 0 0, .int .i64 0, .int .i64 0, .int .i64 0] 65)
  have XA := jj (((Cells.new w #[.slice am la.length c1, .slice as_ sa.length c2] 26).below hb2).below hb3)
  have XB := jj ((Cells.new (w.alloc (.cells #[.slice am la.length c1, .slice as_ sa.length c2] 26)) #[.slice bm lb.length c3, .slice bs_ sb.length c4] 26).below hb3)
  have XR := jj (Cells.new ((w.alloc (.cells #[.slice am la.length c1, .slice as_ sa.length c2] 26)).alloc (.cells #[.slice bm lb.length c3, .slice bs_ sb.length c4] 26)) #[.slice none 0 0, .slice none 0 0, .int .i64 0, .int .i64 0, .int .i64 0] 65)
  have D := jj (show Base w (((w.alloc (.cells #[.slice am la.length c1, .slice as_ sa.length c2] 26)).alloc (.cells #[.slice bm lb.length c3, .slice bs_ sb.length c4] 26)).alloc (.cells #[.slice none 0 0, .slice none 0 0, .int .i64 0, .int .i64 0, .int .i64 0] 65)) from (hb1.trans (hb2.mono (by simp))).trans (hb3.mono (by simp; omega)))
  have hsz : (((w.alloc (.cells #[.slice am la.length c1, .slice as_ sa.length c2] 26)).alloc (.cells #[.slice bm lb.length c3, .slice bs_ sb.length c4] 26)).alloc (.cells #[.slice none 0 0, .slice none 0 0, .int .i64 0, .int .i64 0, .int .i64 0] 65)).heap.size = w.heap.size + 3 := by simp
  simp only [World.size_alloc, List.toList_toArray] at XA XB XR
  clear hb1 hb2 hb3
  rw [hW3] at XA
  rw [hW3] at XB
  rw [hW3] at XR
  rw [hW3] at D
  rw [hW3] at hsz
  go_enter Tryz.func108, Tryz.ntmps108
  go_upto_region 1 with fail
  clear hW3
  obtain ⟨a0, a1, _⟩ := XA.out.c2
  obtain ⟨b0, b1, _⟩ := XB.out.c2
  go_upto_region 2 with (go_at_call 106; refine (spec_join am bm c1 c3 la lb _ hla hlb (MarksAt.mono MA.out D.out) (MarksAt.mono MB.out D.out)).mono ?_; rintro e w1 ⟨ja, jc, rfl, hjo, hb⟩; have JO := jj hjo; replace XR := jj (XR.out.below hb); replace XB := jj (XB.out.below hb); replace XA := jj (XA.out.below hb); replace D := jj (D.out.below hb); have hzC := hb.size; clear hb hjo a0 a1 b0 b1)
  have XO := jj (Cells.new w1 #[.slice ja (joinTo la lb 5).length jc, .slice none 0 0] 26)
  have hb5 := step_alloc w1 (.cells #[.slice ja (joinTo la lb 5).length jc, .slice none 0 0] 26)
  simp only [List.toList_toArray] at XO
  obtain ⟨O, hO⟩ : ∃ O, w1.heap.size = O := ⟨_, rfl⟩
  generalize w1.alloc (.cells #[.slice ja (joinTo la lb 5).length jc, .slice none 0 0] 26) = w4 at XO hb5 ⊢
  have Y0 := jj (show Syn w w4 O [.slice am la.length c1, .slice as_ sa.length c2] [.slice bm lb.length c3, .slice bs_ sb.length c4] ja jc (joinTo la lb 5) none 0 (collect ([] ++ (sa.take 0).filter (p1 sb lb))) from ⟨XA.out.below hb5, XB.out.below hb5, XR.out.below hb5, hO ▸ XO.out, hO ▸ hsz ▸ OwnIn.same JO.out (Same.of_below hb5 (Nat.le_refl _)), .inl rfl, .inl ⟨rfl, rfl, rfl⟩, D.out.below hb5, by omega, World.ownsRow_nil _ _ _ _, fun _ => rfl⟩)
  rw [hO]
  clear XA XB XR D JO XO hb5 hO hzC hsz
  go_wp2
  go_loopw [6] (fun i wr => ∃ (k : Nat) (qa : Option Addr) (qc : Nat), k ≤ sa.length ∧ i = .int .i64 k ∧ Syn w wr O [.slice am la.length c1, .slice as_ sa.length c2] [.slice bm lb.length c3, .slice bs_ sb.length c4] ja jc (joinTo la lb 5) qa qc (collect ([] ++ (sa.take k).filter (p1 sb lb)))) (fun i _ => sa.length - (intOf i).toNat)
  case atStart => exact ⟨0, none, 0, Nat.zero_le _, rfl, Y0.out⟩
  case round =>
    obtain ⟨k, qa, qc, hk, rfl, hy⟩ := hrel
    have Y := jj hy
    clear hy
    by_cases hlt : k < sa.length
    rotate_left
    · obtain rfl : k = sa.length := by omega
      rw [List.take_length] at Y
      clear Y0
      have Y0 := jj (show Syn w wr O [.slice am la.length c1, .slice as_ sa.length c2] [.slice bm lb.length c3, .slice bs_ sb.length c4] ja jc (joinTo la lb 5) qa qc (collect (sa.filter (p1 sb lb) ++ (sb.take 0).filter (p2 sa la))) by have := Y.out; simpa using this)
      clear Y
      obtain ⟨x0, x1, _⟩ := Y0.out.xa.c2
      go_wp2
      go_loopw [7] (fun i wr => ∃ (k : Nat) (qa : Option Addr) (qc : Nat), k ≤ sb.length ∧ i = .int .i64 k ∧ Syn w wr O [.slice am la.length c1, .slice as_ sa.length c2] [.slice bm lb.length c3, .slice bs_ sb.length c4] ja jc (joinTo la lb 5) qa qc (collect (sa.filter (p1 sb lb) ++ (sb.take k).filter (p2 sa la)))) (fun i _ => sb.length - (intOf i).toNat)
      case atStart => exact ⟨0, qa, qc, Nat.zero_le _, rfl, Y0.out⟩
      case round =>
        obtain ⟨k, qa, qc, hk, rfl, hy⟩ := hrel
        have Y := jj hy
        clear hy
        by_cases hlt : k < sb.length
        rotate_left
        · obtain rfl : k = sb.length := by omega
          rw [List.take_length, p2_uns hsA] at Y
          have HS := jj (show synL la sa lb sb = collect (sa.filter (p1 sb lb) ++ uns sb la) from rfl)
          obtain ⟨S, hS⟩ : ∃ S, collect (sa.filter (p1 sb lb) ++ uns sb la) = S := ⟨_, rfl⟩
          rw [hS] at Y HS
          obtain ⟨J, hJ⟩ : ∃ J, joinTo la lb 5 = J := ⟨_, rfl⟩
          rw [hJ] at Y HJ
          clear hS hJ Y0
          obtain ⟨y0, y1, _⟩ := Y.out.xb.c2
          obtain ⟨o0, o1, _⟩ := Y.out.xo.c2
          obtain ⟨r0, r1, r2, r3, r4, f0, f1, f2, f3, f4⟩ := Y.out.xr.c5
          have ol := Y.out.ol
          by_cases h8 : S.length ≤ 8
          · have hok := synC_ok (la := la) (sa := sa) (lb := lb) (sb := sb) ⟨hsA, hsB⟩ (by rw [HS.out]; exact h8)
            have h8' : decide ((8 : Int) < (S.length : Int)) = false := decide_eq_false (by omega)
            go_wp2_with fail
            have XF := jj (cells_set5 Y.out.xr (.slice ja J.length jc) (.slice qa S.length qc) (.int .i64 0) (.int .i64 0) (.int .i64 0))
            have HWW := jj (within_set5 wr (w.heap.size + 1 + 1) (.slice ja J.length jc) (.slice qa S.length qc) (.int .i64 0) (.int .i64 0) (.int .i64 0))
            obtain ⟨q0, q1, q2, q3, q4, -⟩ := XF.out.c5
            have hxo := Y.out.xo.lt
            have SO6 := jj (ROwnIn.same Y.out.so (fun b h1 h2 => HWW.out.block b (by omega) (.inr (by omega))))
            have JO6 := jj (OwnIn.same Y.out.jo (fun b h1 h2 => HWW.out.block b (by omega) (.inr (by omega))))
            refine bodyPost_ret (v := .agg #[.slice ja J.length jc, .slice qa S.length qc, .int .i64 0, .int .i64 0, .int .i64 0]) (by simp [results, Tryz.results108, go_sem, q0, q1, q2, q3, q4]) rfl ?_
            rw [hok.1, hok.2.1, hok.2.2, HS.out, HJ.out]
            have hws := HWW.out.size
            exact ⟨ja, jc, qa, qc, w.heap.size + 3, O, O + 1, wr.heap.size, rfl, JO6.out, SO6.out, by omega, by omega, by omega, hws, .inl (by omega), Y.out.hh, Y.out.d.within HWW.out (by omega), row_le (own_within Y.out.row HWW.out (by omega)) (by have := Y.out.ol; omega), Y.out.nz⟩
          · have hno := synC_full (la := la) (sa := sa) (lb := lb) (sb := sb) ⟨hsA, hsB⟩ (by rw [HS.out]; exact h8)
            have h8' : decide ((8 : Int) < (S.length : Int)) = true := decide_eq_true (by omega)
            go_wp2_with (go_at_call 61; refine (spec_ill 9 _).mono ?_; rintro e w1 ⟨rfl, hb⟩; replace Y := jj (Y.out.below hb); clear hb r0 r1 r2 r3 r4 f0 f1 f2 f3 f4; obtain ⟨r0, r1, r2, r3, r4, f0, f1, f2, f3, f4⟩ := Y.out.xr.c5)
            have XF := cells_set5 Y.out.xr (.slice none 0 0) (.slice none 0 0) (.int .i64 0) (.int .i64 0) (.int .i64 9)
            obtain ⟨q0, q1, q2, q3, q4, -⟩ := XF.c5
            refine bodyPost_ret (v := .agg #[.slice none 0 0, .slice none 0 0, .int .i64 0, .int .i64 0, .int .i64 9]) (by simp [results, Tryz.results108, go_sem, q0, q1, q2, q3, q4]) rfl ?_
            rw [hno.1, hno.2.1, hno.2.2]
            exact givesSR_no 9 (Y.out.d.within (within_set5 w1 _ _ _ _ _ _) (by omega))
        obtain ⟨g, off, rfl, hg, c0, c1, c2, c3⟩ := SibsAt.cells RB.out hlt
        obtain ⟨P, hP0⟩ : ∃ P, collect (sa.filter (p1 sb lb) ++ (sb.take k).filter (p2 sa la)) = P := ⟨_, rfl⟩
        have hP : P.length ≤ 1000 := by rw [← hP0, collect_length, List.length_append]; have := List.length_filter_le (p2 sa la) (sb.take k); have h7 := List.length_filter_le (p1 sb lb) sa; have h9 : (sb.take k).length ≤ 8 := by rw [List.length_take]; omega
                                        first | omega | (simp only [List.length_nil]; omega)
        have GY := jj (grow_yes (sa.filter (p1 sb lb)) sb (p2 sa la) k hlt)
        have GN := jj (grow_no (sa.filter (p1 sb lb)) sb (p2 sa la) k hlt)
        rw [hP0] at GY GN Y
        clear hP0
        obtain ⟨⟨⟨en, em⟩, eg, ed⟩, hx⟩ : ∃ x, sb[k] = x := ⟨_, rfl⟩
        rw [hx] at c0 c1 c2 c3 GY GN
        clear hx
        have E := jj (fun (W : World) (h : Base w W) => (⟨(Below.cell h hg).trans c0, (Below.cell h hg).trans c1, (Below.cell h hg).trans c2, (Below.cell h hg).trans c3⟩ : W.cell? ⟨g, off + k * 4, none⟩ = some (.int .i64 en) ∧ W.cell? ⟨g, off + k * 4 + 1, none⟩ = some (.int .i64 em) ∧ W.cell? ⟨g, off + k * 4 + 2, none⟩ = some (.bool eg) ∧ W.cell? ⟨g, off + k * 4 + 3, none⟩ = some (.string ed)))
        clear c0 c1 c2 c3
        have i0 : (0 : Int) ≤ (k : Int) := by omega
        have i1 : (k : Int) < (sb.length : Int) := by omega
        obtain ⟨z, hat⟩ : ∃ z, atI sa (en, em) = z := ⟨_, rfl⟩
        obtain ⟨hs, hhas⟩ : ∃ b, hasB la (en, em) = b := ⟨_, rfl⟩
        have HD := jj (atI_has sa (en, em))
        rw [hat] at HD
        have HH := jj hhas
        obtain ⟨x0, x1, _⟩ := Y.out.xb.c2
        cases hge : decide ((0 : Int) ≤ z)
        · cases hs
          · have hg2 : decide (z < (0 : Int)) = true := decide_eq_true (by have := of_decide_eq_false hge; omega)
            go_wp2_with fail
            refine wp_region_held_drew (S := fun w' => w'.cell? ⟨w.heap.size, 0, none⟩ = some (.slice am la.length c1) ∧ w'.cell? ⟨w.heap.size, 1, none⟩ = some (.slice as_ sa.length c2) ∧ w'.cell? ⟨w.heap.size + 1, 0, none⟩ = some (.slice bm lb.length c3) ∧ w'.cell? ⟨w.heap.size + 1, 1, none⟩ = some (.slice (some ⟨g, off, none⟩) sb.length c4) ∧ w'.cell? ⟨g, off + k * 4, none⟩ = some (.int .i64 en) ∧ w'.cell? ⟨g, off + k * 4 + 1, none⟩ = some (.int .i64 em)) (by kernel_rfl) (by exact ⟨Y.out.xa.c2.1, Y.out.xa.c2.2.1, Y.out.xb.c2.1, Y.out.xb.c2.2.1, (E.out _ Y.out.d).1, (E.out _ Y.out.d).2.1⟩) (fun hHeld => ?_)
            refine tk 0 (v := ?_) ?_
            try walk_nrm
            refine tk 1 (v := ?_) ?_
            try walk_nrm
            refine tk 2 (v := ?_) ?_
            try walk_nrm
            refine tk 3 (v := ?_) ?_
            try walk_nrm
            refine tk 4 (v := ?_) ?_
            try walk_nrm
            refine tk 5 (v := ?_) ?_
            try walk_nrm
            refine tk 6 (v := ?_) ?_
            try walk_nrm
            refine tk 7 (v := ?_) ?_
            try walk_nrm
            refine rd 8 (fun K hK => ?_)
            go_simp
            have hd : Below wr.heap.size wr wr.drew := (Below.refl _ _).drew
            replace Y := jj (Y.out.below hd)
            clear hd
            generalize wr.drew = w1 at Y ⊢
            refine (spec_at as_ c2 sa (en, em) _ hsa (SibsAt.mono RA.out Y.out.d)).mono ?_
            rintro e w2 ⟨rfl, hb⟩
            rw [hat]
            replace Y := jj (Y.out.below hb)
            clear hb
            go_wp2_with fail
            refine hK.out _ _ (by exact ⟨Y.out.xa.c2.1, Y.out.xa.c2.2.1, Y.out.xb.c2.1, Y.out.xb.c2.2.1, (E.out _ Y.out.d).1, (E.out _ Y.out.d).2.1⟩) (fun hHeld => ?_)
            clear hK K
            try walk_nrm
            refine tk 9 (v := ?_) ?_
            try walk_nrm
            refine tk 10 (v := ?_) ?_
            try walk_nrm
            refine tk 11 (v := ?_) ?_
            try walk_nrm
            refine tk 12 (v := ?_) ?_
            try walk_nrm
            refine tk 13 (v := ?_) ?_
            try walk_nrm
            refine tk 14 (v := ?_) ?_
            try walk_nrm
            refine tk 15 (v := ?_) ?_
            try walk_nrm
            refine tk 16 (v := ?_) ?_
            try walk_nrm
            refine tk 17 (v := ?_) ?_
            try walk_nrm
            refine tk 18 (v := ?_) ?_
            try walk_nrm
            refine rd 19 (fun K hK => ?_)
            go_simp
            refine (spec_seenHas am c1 la (en, em) _ hla (MarksAt.mono MA.out Y.out.d)).mono ?_
            rintro e w3 ⟨rfl, hb⟩
            rw [hhas]
            replace Y := jj (Y.out.below hb)
            clear hb
            go_wp2_with fail
            refine hK.out _ _ (by exact ⟨Y.out.xa.c2.1, Y.out.xa.c2.2.1, Y.out.xb.c2.1, Y.out.xb.c2.2.1, (E.out _ Y.out.d).1, (E.out _ Y.out.d).2.1⟩) (fun hHeld => ?_)
            clear hK K
            try walk_nrm
            refine tk 20 (v := ?_) ?_
            try walk_nrm
            refine tk 21 (v := ?_) ?_
            try walk_nrm
            refine rx ?_
            go_wp2_with fail
            refine wp_region_held_drew (S := fun w' => w'.cell? ⟨w.heap.size + 1, 1, none⟩ = some (.slice (some ⟨g, off, none⟩) sb.length c4) ∧ w'.cell? ⟨g, off + k * 4, none⟩ = some (.int .i64 en) ∧ w'.cell? ⟨g, off + k * 4 + 1, none⟩ = some (.int .i64 em) ∧ w'.cell? ⟨g, off + k * 4 + 2, none⟩ = some (.bool eg) ∧ w'.cell? ⟨g, off + k * 4 + 3, none⟩ = some (.string ed)) (by kernel_rfl) (by exact ⟨Y.out.xb.c2.2.1, (E.out _ Y.out.d).1, (E.out _ Y.out.d).2.1, (E.out _ Y.out.d).2.2.1, (E.out _ Y.out.d).2.2.2⟩) (fun hHeld => ?_)
            refine tk 0 (v := ?_) ?_
            try walk_nrm
            refine tk 2 (v := ?_) ?_
            try walk_nrm
            refine tk 3 (v := ?_) ?_
            try walk_nrm
            refine tk 4 (v := ?_) ?_
            try walk_nrm
            refine tk 5 (v := ?_) ?_
            try walk_nrm
            refine tk 6 (v := ?_) ?_
            try walk_nrm
            refine rd 1 (fun K hK => ?_)
            have hd : Below w3.heap.size w3 w3.drew := (Below.refl _ _).drew
            replace Y := jj (Y.out.below hd)
            clear hd
            generalize w3.drew = w5 at Y ⊢
            obtain ⟨o0, o1, f0, f1⟩ := Y.out.xo.c2
            go_simp
            clear o0 o1 f0 f1
            refine hK.out _ _ (by exact ⟨Y.out.xb.c2.2.1, (E.out _ Y.out.d).1, (E.out _ Y.out.d).2.1, (E.out _ Y.out.d).2.2.1, (E.out _ Y.out.d).2.2.2⟩) (fun hHeld => ?_)
            clear hK K
            try walk_nrm
            refine rd 7 (fun K hK => ?_)
            go_simp
            refine (spec_in_row qa qc P ((en, em), eg, ed) _ hP Y.out.hh (ROwnIn.at_ Y.out.so)).mono ?_
            rintro e w6 ⟨ra, rc, rfl, hrh, hro, hrw, hb⟩
            have HW6 := jj hrw
            clear hrw
            have HR := jj hrh
            have HO := jj hro
            have HZ := jj hb
            clear hrh hro hb
            have Y0 := jj Y.out
            replace Y := jj (Y.out.below HZ.out)
            go_wp2_with fail
            refine hK.out _ _ (by exact ⟨Y.out.xb.c2.2.1, (E.out _ Y.out.d).1, (E.out _ Y.out.d).2.1, (E.out _ Y.out.d).2.2.1, (E.out _ Y.out.d).2.2.2⟩) (fun hHeld => ?_)
            clear hK K
            try walk_nrm
            refine tk 8 (v := ?_) ?_
            try walk_nrm
            refine rd 9 (fun K hK => ?_)
            go_simp
            --op
            obtain ⟨o0, o1, f0, f1⟩ := Y.out.xo.c2
            go_simp
            replace Y := jj (Y0.out.put HZ.out HO.out HR.out HW6.out (ins_ne _ _))
            clear o0 o1 f0 f1
            refine hK.out _ _ (by exact ⟨Y.out.xb.c2.2.1, (E.out _ Y.out.d).1, (E.out _ Y.out.d).2.1, (E.out _ Y.out.d).2.2.1, (E.out _ Y.out.d).2.2.2⟩) (fun hHeld => ?_)
            clear hK K
            try walk_nrm
            refine rx ?_
            go_wp2
            go_roundw
            case rel => exact ⟨k + 1, ra, rc, by omega, by go_num, by rw [GY.out (by show p2 sa la _ = true; simp only [p2]; rw [HD.out, hge, HH.out]; rfl)]; exact Y.out⟩
            case measure => go_light; simp [intOf]; omega
          · have hg2 : decide (z < (0 : Int)) = true := decide_eq_true (by have := of_decide_eq_false hge; omega)
            go_wp2_with fail
            refine wp_region_held_drew (S := fun w' => w'.cell? ⟨w.heap.size, 0, none⟩ = some (.slice am la.length c1) ∧ w'.cell? ⟨w.heap.size, 1, none⟩ = some (.slice as_ sa.length c2) ∧ w'.cell? ⟨w.heap.size + 1, 0, none⟩ = some (.slice bm lb.length c3) ∧ w'.cell? ⟨w.heap.size + 1, 1, none⟩ = some (.slice (some ⟨g, off, none⟩) sb.length c4) ∧ w'.cell? ⟨g, off + k * 4, none⟩ = some (.int .i64 en) ∧ w'.cell? ⟨g, off + k * 4 + 1, none⟩ = some (.int .i64 em)) (by kernel_rfl) (by exact ⟨Y.out.xa.c2.1, Y.out.xa.c2.2.1, Y.out.xb.c2.1, Y.out.xb.c2.2.1, (E.out _ Y.out.d).1, (E.out _ Y.out.d).2.1⟩) (fun hHeld => ?_)
            refine tk 0 (v := ?_) ?_
            try walk_nrm
            refine tk 1 (v := ?_) ?_
            try walk_nrm
            refine tk 2 (v := ?_) ?_
            try walk_nrm
            refine tk 3 (v := ?_) ?_
            try walk_nrm
            refine tk 4 (v := ?_) ?_
            try walk_nrm
            refine tk 5 (v := ?_) ?_
            try walk_nrm
            refine tk 6 (v := ?_) ?_
            try walk_nrm
            refine tk 7 (v := ?_) ?_
            try walk_nrm
            refine rd 8 (fun K hK => ?_)
            go_simp
            have hd : Below wr.heap.size wr wr.drew := (Below.refl _ _).drew
            replace Y := jj (Y.out.below hd)
            clear hd
            generalize wr.drew = w1 at Y ⊢
            refine (spec_at as_ c2 sa (en, em) _ hsa (SibsAt.mono RA.out Y.out.d)).mono ?_
            rintro e w2 ⟨rfl, hb⟩
            rw [hat]
            replace Y := jj (Y.out.below hb)
            clear hb
            go_wp2_with fail
            refine hK.out _ _ (by exact ⟨Y.out.xa.c2.1, Y.out.xa.c2.2.1, Y.out.xb.c2.1, Y.out.xb.c2.2.1, (E.out _ Y.out.d).1, (E.out _ Y.out.d).2.1⟩) (fun hHeld => ?_)
            clear hK K
            try walk_nrm
            refine tk 9 (v := ?_) ?_
            try walk_nrm
            refine tk 10 (v := ?_) ?_
            try walk_nrm
            refine tk 11 (v := ?_) ?_
            try walk_nrm
            refine tk 12 (v := ?_) ?_
            try walk_nrm
            refine tk 13 (v := ?_) ?_
            try walk_nrm
            refine tk 14 (v := ?_) ?_
            try walk_nrm
            refine tk 15 (v := ?_) ?_
            try walk_nrm
            refine tk 16 (v := ?_) ?_
            try walk_nrm
            refine tk 17 (v := ?_) ?_
            try walk_nrm
            refine tk 18 (v := ?_) ?_
            try walk_nrm
            refine rd 19 (fun K hK => ?_)
            go_simp
            refine (spec_seenHas am c1 la (en, em) _ hla (MarksAt.mono MA.out Y.out.d)).mono ?_
            rintro e w3 ⟨rfl, hb⟩
            rw [hhas]
            replace Y := jj (Y.out.below hb)
            clear hb
            go_wp2_with fail
            refine hK.out _ _ (by exact ⟨Y.out.xa.c2.1, Y.out.xa.c2.2.1, Y.out.xb.c2.1, Y.out.xb.c2.2.1, (E.out _ Y.out.d).1, (E.out _ Y.out.d).2.1⟩) (fun hHeld => ?_)
            clear hK K
            try walk_nrm
            refine tk 20 (v := ?_) ?_
            try walk_nrm
            refine tk 21 (v := ?_) ?_
            try walk_nrm
            refine rx ?_
            have YN := (Y.out)
            go_wp2
            go_roundw
            case rel => exact ⟨k + 1, qa, qc, by omega, by go_num, by rw [GN.out (by show p2 sa la _ = false; simp only [p2]; rw [HD.out, hge, HH.out]; rfl)]; exact YN⟩
            case measure => go_light; simp [intOf]; omega
        · have hg2 : decide (z < (0 : Int)) = false := decide_eq_false (by have := of_decide_eq_true hge; omega)
          go_wp2_with fail
          refine wp_region_held_drew (S := fun w' => w'.cell? ⟨w.heap.size, 0, none⟩ = some (.slice am la.length c1) ∧ w'.cell? ⟨w.heap.size, 1, none⟩ = some (.slice as_ sa.length c2) ∧ w'.cell? ⟨w.heap.size + 1, 0, none⟩ = some (.slice bm lb.length c3) ∧ w'.cell? ⟨w.heap.size + 1, 1, none⟩ = some (.slice (some ⟨g, off, none⟩) sb.length c4) ∧ w'.cell? ⟨g, off + k * 4, none⟩ = some (.int .i64 en) ∧ w'.cell? ⟨g, off + k * 4 + 1, none⟩ = some (.int .i64 em)) (by kernel_rfl) (by exact ⟨Y.out.xa.c2.1, Y.out.xa.c2.2.1, Y.out.xb.c2.1, Y.out.xb.c2.2.1, (E.out _ Y.out.d).1, (E.out _ Y.out.d).2.1⟩) (fun hHeld => ?_)
          refine tk 0 (v := ?_) ?_
          try walk_nrm
          refine tk 1 (v := ?_) ?_
          try walk_nrm
          refine tk 2 (v := ?_) ?_
          try walk_nrm
          refine tk 3 (v := ?_) ?_
          try walk_nrm
          refine tk 4 (v := ?_) ?_
          try walk_nrm
          refine tk 5 (v := ?_) ?_
          try walk_nrm
          refine tk 6 (v := ?_) ?_
          try walk_nrm
          refine tk 7 (v := ?_) ?_
          try walk_nrm
          refine rd 8 (fun K hK => ?_)
          go_simp
          have hd : Below wr.heap.size wr wr.drew := (Below.refl _ _).drew
          replace Y := jj (Y.out.below hd)
          clear hd
          generalize wr.drew = w1 at Y ⊢
          refine (spec_at as_ c2 sa (en, em) _ hsa (SibsAt.mono RA.out Y.out.d)).mono ?_
          rintro e w2 ⟨rfl, hb⟩
          rw [hat]
          replace Y := jj (Y.out.below hb)
          clear hb
          go_wp2_with fail
          refine hK.out _ _ (by exact ⟨Y.out.xa.c2.1, Y.out.xa.c2.2.1, Y.out.xb.c2.1, Y.out.xb.c2.2.1, (E.out _ Y.out.d).1, (E.out _ Y.out.d).2.1⟩) (fun hHeld => ?_)
          clear hK K
          try walk_nrm
          refine tk 9 (v := ?_) ?_
          try walk_nrm
          refine tk 10 (v := ?_) ?_
          try walk_nrm
          refine tu 11 ?_
          try walk_nrm
          refine tu 12 ?_
          try walk_nrm
          refine tu 13 ?_
          try walk_nrm
          refine tu 14 ?_
          try walk_nrm
          refine tu 15 ?_
          try walk_nrm
          refine tu 16 ?_
          try walk_nrm
          refine tu 17 ?_
          try walk_nrm
          refine tu 18 ?_
          try walk_nrm
          refine tu 19 ?_
          try walk_nrm
          refine tu 20 ?_
          try walk_nrm
          refine tk 21 (v := ?_) ?_
          try walk_nrm
          refine rx ?_
          have YN := (Y.out)
          go_wp2
          go_roundw
          case rel => exact ⟨k + 1, qa, qc, by omega, by go_num, by rw [GN.out (by show p2 sa la _ = false; simp only [p2]; rw [HD.out, hge]; rfl)]; exact YN⟩
          case measure => go_light; simp [intOf]; omega
    obtain ⟨g, off, rfl, hg, c0, c1, c2, c3⟩ := SibsAt.cells RA.out hlt
    obtain ⟨P, hP0⟩ : ∃ P, collect ([] ++ (sa.take k).filter (p1 sb lb)) = P := ⟨_, rfl⟩
    have hP : P.length ≤ 1000 := by rw [← hP0, collect_length, List.length_append]; have := List.length_filter_le (p1 sb lb) (sa.take k); have h9 : (sa.take k).length ≤ 8 := by rw [List.length_take]; omega
                                    first | omega | (simp only [List.length_nil]; omega)
    have GY := jj (grow_yes ([]) sa (p1 sb lb) k hlt)
    have GN := jj (grow_no ([]) sa (p1 sb lb) k hlt)
    rw [hP0] at GY GN Y
    clear hP0
    obtain ⟨⟨⟨en, em⟩, eg, ed⟩, hx⟩ : ∃ x, sa[k] = x := ⟨_, rfl⟩
    rw [hx] at c0 c1 c2 c3 GY GN
    clear hx
    have E := jj (fun (W : World) (h : Base w W) => (⟨(Below.cell h hg).trans c0, (Below.cell h hg).trans c1, (Below.cell h hg).trans c2, (Below.cell h hg).trans c3⟩ : W.cell? ⟨g, off + k * 4, none⟩ = some (.int .i64 en) ∧ W.cell? ⟨g, off + k * 4 + 1, none⟩ = some (.int .i64 em) ∧ W.cell? ⟨g, off + k * 4 + 2, none⟩ = some (.bool eg) ∧ W.cell? ⟨g, off + k * 4 + 3, none⟩ = some (.string ed)))
    clear c0 c1 c2 c3
    have i0 : (0 : Int) ≤ (k : Int) := by omega
    have i1 : (k : Int) < (sa.length : Int) := by omega
    obtain ⟨z, hat⟩ : ∃ z, atI sb (en, em) = z := ⟨_, rfl⟩
    obtain ⟨hs, hhas⟩ : ∃ b, hasB lb (en, em) = b := ⟨_, rfl⟩
    have HD := jj (atI_has sb (en, em))
    rw [hat] at HD
    have HH := jj hhas
    obtain ⟨x0, x1, _⟩ := Y.out.xa.c2
    cases hge : decide ((0 : Int) ≤ z)
    · cases hs
      · have hg2 : decide (z < (0 : Int)) = true := decide_eq_true (by have := of_decide_eq_false hge; omega)
        go_wp2_with fail
        refine wp_region_held_drew (S := fun w' => w'.cell? ⟨w.heap.size, 0, none⟩ = some (.slice am la.length c1) ∧ w'.cell? ⟨w.heap.size, 1, none⟩ = some (.slice (some ⟨g, off, none⟩) sa.length c2) ∧ w'.cell? ⟨w.heap.size + 1, 0, none⟩ = some (.slice bm lb.length c3) ∧ w'.cell? ⟨w.heap.size + 1, 1, none⟩ = some (.slice bs_ sb.length c4) ∧ w'.cell? ⟨g, off + k * 4, none⟩ = some (.int .i64 en) ∧ w'.cell? ⟨g, off + k * 4 + 1, none⟩ = some (.int .i64 em)) (by kernel_rfl) (by exact ⟨Y.out.xa.c2.1, Y.out.xa.c2.2.1, Y.out.xb.c2.1, Y.out.xb.c2.2.1, (E.out _ Y.out.d).1, (E.out _ Y.out.d).2.1⟩) (fun hHeld => ?_)
        refine tk 0 (v := ?_) ?_
        try walk_nrm
        refine tk 1 (v := ?_) ?_
        try walk_nrm
        refine tk 2 (v := ?_) ?_
        try walk_nrm
        refine tk 3 (v := ?_) ?_
        try walk_nrm
        refine tk 4 (v := ?_) ?_
        try walk_nrm
        refine tk 5 (v := ?_) ?_
        try walk_nrm
        refine tk 6 (v := ?_) ?_
        try walk_nrm
        refine tk 7 (v := ?_) ?_
        try walk_nrm
        refine rd 8 (fun K hK => ?_)
        go_simp
        have hd : Below wr.heap.size wr wr.drew := (Below.refl _ _).drew
        replace Y := jj (Y.out.below hd)
        clear hd
        generalize wr.drew = w1 at Y ⊢
        refine (spec_at bs_ c4 sb (en, em) _ hsb (SibsAt.mono RB.out Y.out.d)).mono ?_
        rintro e w2 ⟨rfl, hb⟩
        rw [hat]
        replace Y := jj (Y.out.below hb)
        clear hb
        go_wp2_with fail
        refine hK.out _ _ (by exact ⟨Y.out.xa.c2.1, Y.out.xa.c2.2.1, Y.out.xb.c2.1, Y.out.xb.c2.2.1, (E.out _ Y.out.d).1, (E.out _ Y.out.d).2.1⟩) (fun hHeld => ?_)
        clear hK K
        try walk_nrm
        refine tk 9 (v := ?_) ?_
        try walk_nrm
        refine tk 10 (v := ?_) ?_
        try walk_nrm
        refine tk 11 (v := ?_) ?_
        try walk_nrm
        refine tk 12 (v := ?_) ?_
        try walk_nrm
        refine tk 13 (v := ?_) ?_
        try walk_nrm
        refine tk 14 (v := ?_) ?_
        try walk_nrm
        refine tk 15 (v := ?_) ?_
        try walk_nrm
        refine tk 16 (v := ?_) ?_
        try walk_nrm
        refine tk 17 (v := ?_) ?_
        try walk_nrm
        refine tk 18 (v := ?_) ?_
        try walk_nrm
        refine rd 19 (fun K hK => ?_)
        go_simp
        refine (spec_seenHas bm c3 lb (en, em) _ hlb (MarksAt.mono MB.out Y.out.d)).mono ?_
        rintro e w3 ⟨rfl, hb⟩
        rw [hhas]
        replace Y := jj (Y.out.below hb)
        clear hb
        go_wp2_with fail
        refine hK.out _ _ (by exact ⟨Y.out.xa.c2.1, Y.out.xa.c2.2.1, Y.out.xb.c2.1, Y.out.xb.c2.2.1, (E.out _ Y.out.d).1, (E.out _ Y.out.d).2.1⟩) (fun hHeld => ?_)
        clear hK K
        try walk_nrm
        refine tk 20 (v := ?_) ?_
        try walk_nrm
        refine tk 21 (v := ?_) ?_
        try walk_nrm
        refine rx ?_
        go_wp2_with fail
        refine wp_region_held_drew (S := fun w' => w'.cell? ⟨w.heap.size, 1, none⟩ = some (.slice (some ⟨g, off, none⟩) sa.length c2) ∧ w'.cell? ⟨g, off + k * 4, none⟩ = some (.int .i64 en) ∧ w'.cell? ⟨g, off + k * 4 + 1, none⟩ = some (.int .i64 em) ∧ w'.cell? ⟨g, off + k * 4 + 2, none⟩ = some (.bool eg) ∧ w'.cell? ⟨g, off + k * 4 + 3, none⟩ = some (.string ed)) (by kernel_rfl) (by exact ⟨Y.out.xa.c2.2.1, (E.out _ Y.out.d).1, (E.out _ Y.out.d).2.1, (E.out _ Y.out.d).2.2.1, (E.out _ Y.out.d).2.2.2⟩) (fun hHeld => ?_)
        refine tk 0 (v := ?_) ?_
        try walk_nrm
        refine tk 2 (v := ?_) ?_
        try walk_nrm
        refine tk 3 (v := ?_) ?_
        try walk_nrm
        refine tk 4 (v := ?_) ?_
        try walk_nrm
        refine tk 5 (v := ?_) ?_
        try walk_nrm
        refine tk 6 (v := ?_) ?_
        try walk_nrm
        refine rd 1 (fun K hK => ?_)
        have hd : Below w3.heap.size w3 w3.drew := (Below.refl _ _).drew
        replace Y := jj (Y.out.below hd)
        clear hd
        generalize w3.drew = w5 at Y ⊢
        obtain ⟨o0, o1, f0, f1⟩ := Y.out.xo.c2
        go_simp
        clear o0 o1 f0 f1
        refine hK.out _ _ (by exact ⟨Y.out.xa.c2.2.1, (E.out _ Y.out.d).1, (E.out _ Y.out.d).2.1, (E.out _ Y.out.d).2.2.1, (E.out _ Y.out.d).2.2.2⟩) (fun hHeld => ?_)
        clear hK K
        try walk_nrm
        refine rd 7 (fun K hK => ?_)
        go_simp
        refine (spec_in_row qa qc P ((en, em), eg, ed) _ hP Y.out.hh (ROwnIn.at_ Y.out.so)).mono ?_
        rintro e w6 ⟨ra, rc, rfl, hrh, hro, hrw, hb⟩
        have HW6 := jj hrw
        clear hrw
        have HR := jj hrh
        have HO := jj hro
        have HZ := jj hb
        clear hrh hro hb
        have Y0 := jj Y.out
        replace Y := jj (Y.out.below HZ.out)
        go_wp2_with fail
        refine hK.out _ _ (by exact ⟨Y.out.xa.c2.2.1, (E.out _ Y.out.d).1, (E.out _ Y.out.d).2.1, (E.out _ Y.out.d).2.2.1, (E.out _ Y.out.d).2.2.2⟩) (fun hHeld => ?_)
        clear hK K
        try walk_nrm
        refine tk 8 (v := ?_) ?_
        try walk_nrm
        refine rd 9 (fun K hK => ?_)
        go_simp
        --op
        obtain ⟨o0, o1, f0, f1⟩ := Y.out.xo.c2
        go_simp
        replace Y := jj (Y0.out.put HZ.out HO.out HR.out HW6.out (ins_ne _ _))
        clear o0 o1 f0 f1
        refine hK.out _ _ (by exact ⟨Y.out.xa.c2.2.1, (E.out _ Y.out.d).1, (E.out _ Y.out.d).2.1, (E.out _ Y.out.d).2.2.1, (E.out _ Y.out.d).2.2.2⟩) (fun hHeld => ?_)
        clear hK K
        try walk_nrm
        refine rx ?_
        go_wp2
        go_roundw
        case rel => exact ⟨k + 1, ra, rc, by omega, by go_num, by rw [GY.out (by show p1 sb lb _ = true; simp only [p1]; rw [HD.out, hge, HH.out]; rfl)]; exact Y.out⟩
        case measure => go_light; simp [intOf]; omega
      · have hg2 : decide (z < (0 : Int)) = true := decide_eq_true (by have := of_decide_eq_false hge; omega)
        go_wp2_with fail
        refine wp_region_held_drew (S := fun w' => w'.cell? ⟨w.heap.size, 0, none⟩ = some (.slice am la.length c1) ∧ w'.cell? ⟨w.heap.size, 1, none⟩ = some (.slice (some ⟨g, off, none⟩) sa.length c2) ∧ w'.cell? ⟨w.heap.size + 1, 0, none⟩ = some (.slice bm lb.length c3) ∧ w'.cell? ⟨w.heap.size + 1, 1, none⟩ = some (.slice bs_ sb.length c4) ∧ w'.cell? ⟨g, off + k * 4, none⟩ = some (.int .i64 en) ∧ w'.cell? ⟨g, off + k * 4 + 1, none⟩ = some (.int .i64 em)) (by kernel_rfl) (by exact ⟨Y.out.xa.c2.1, Y.out.xa.c2.2.1, Y.out.xb.c2.1, Y.out.xb.c2.2.1, (E.out _ Y.out.d).1, (E.out _ Y.out.d).2.1⟩) (fun hHeld => ?_)
        refine tk 0 (v := ?_) ?_
        try walk_nrm
        refine tk 1 (v := ?_) ?_
        try walk_nrm
        refine tk 2 (v := ?_) ?_
        try walk_nrm
        refine tk 3 (v := ?_) ?_
        try walk_nrm
        refine tk 4 (v := ?_) ?_
        try walk_nrm
        refine tk 5 (v := ?_) ?_
        try walk_nrm
        refine tk 6 (v := ?_) ?_
        try walk_nrm
        refine tk 7 (v := ?_) ?_
        try walk_nrm
        refine rd 8 (fun K hK => ?_)
        go_simp
        have hd : Below wr.heap.size wr wr.drew := (Below.refl _ _).drew
        replace Y := jj (Y.out.below hd)
        clear hd
        generalize wr.drew = w1 at Y ⊢
        refine (spec_at bs_ c4 sb (en, em) _ hsb (SibsAt.mono RB.out Y.out.d)).mono ?_
        rintro e w2 ⟨rfl, hb⟩
        rw [hat]
        replace Y := jj (Y.out.below hb)
        clear hb
        go_wp2_with fail
        refine hK.out _ _ (by exact ⟨Y.out.xa.c2.1, Y.out.xa.c2.2.1, Y.out.xb.c2.1, Y.out.xb.c2.2.1, (E.out _ Y.out.d).1, (E.out _ Y.out.d).2.1⟩) (fun hHeld => ?_)
        clear hK K
        try walk_nrm
        refine tk 9 (v := ?_) ?_
        try walk_nrm
        refine tk 10 (v := ?_) ?_
        try walk_nrm
        refine tk 11 (v := ?_) ?_
        try walk_nrm
        refine tk 12 (v := ?_) ?_
        try walk_nrm
        refine tk 13 (v := ?_) ?_
        try walk_nrm
        refine tk 14 (v := ?_) ?_
        try walk_nrm
        refine tk 15 (v := ?_) ?_
        try walk_nrm
        refine tk 16 (v := ?_) ?_
        try walk_nrm
        refine tk 17 (v := ?_) ?_
        try walk_nrm
        refine tk 18 (v := ?_) ?_
        try walk_nrm
        refine rd 19 (fun K hK => ?_)
        go_simp
        refine (spec_seenHas bm c3 lb (en, em) _ hlb (MarksAt.mono MB.out Y.out.d)).mono ?_
        rintro e w3 ⟨rfl, hb⟩
        rw [hhas]
        replace Y := jj (Y.out.below hb)
        clear hb
        go_wp2_with fail
        refine hK.out _ _ (by exact ⟨Y.out.xa.c2.1, Y.out.xa.c2.2.1, Y.out.xb.c2.1, Y.out.xb.c2.2.1, (E.out _ Y.out.d).1, (E.out _ Y.out.d).2.1⟩) (fun hHeld => ?_)
        clear hK K
        try walk_nrm
        refine tk 20 (v := ?_) ?_
        try walk_nrm
        refine tk 21 (v := ?_) ?_
        try walk_nrm
        refine rx ?_
        have YN := (Y.out)
        go_wp2
        go_roundw
        case rel => exact ⟨k + 1, qa, qc, by omega, by go_num, by rw [GN.out (by show p1 sb lb _ = false; simp only [p1]; rw [HD.out, hge, HH.out]; rfl)]; exact YN⟩
        case measure => go_light; simp [intOf]; omega
    · have hg2 : decide (z < (0 : Int)) = false := decide_eq_false (by have := of_decide_eq_true hge; omega)
      go_wp2_with fail
      refine wp_region_held_drew (S := fun w' => w'.cell? ⟨w.heap.size, 0, none⟩ = some (.slice am la.length c1) ∧ w'.cell? ⟨w.heap.size, 1, none⟩ = some (.slice (some ⟨g, off, none⟩) sa.length c2) ∧ w'.cell? ⟨w.heap.size + 1, 0, none⟩ = some (.slice bm lb.length c3) ∧ w'.cell? ⟨w.heap.size + 1, 1, none⟩ = some (.slice bs_ sb.length c4) ∧ w'.cell? ⟨g, off + k * 4, none⟩ = some (.int .i64 en) ∧ w'.cell? ⟨g, off + k * 4 + 1, none⟩ = some (.int .i64 em)) (by kernel_rfl) (by exact ⟨Y.out.xa.c2.1, Y.out.xa.c2.2.1, Y.out.xb.c2.1, Y.out.xb.c2.2.1, (E.out _ Y.out.d).1, (E.out _ Y.out.d).2.1⟩) (fun hHeld => ?_)
      refine tk 0 (v := ?_) ?_
      try walk_nrm
      refine tk 1 (v := ?_) ?_
      try walk_nrm
      refine tk 2 (v := ?_) ?_
      try walk_nrm
      refine tk 3 (v := ?_) ?_
      try walk_nrm
      refine tk 4 (v := ?_) ?_
      try walk_nrm
      refine tk 5 (v := ?_) ?_
      try walk_nrm
      refine tk 6 (v := ?_) ?_
      try walk_nrm
      refine tk 7 (v := ?_) ?_
      try walk_nrm
      refine rd 8 (fun K hK => ?_)
      go_simp
      have hd : Below wr.heap.size wr wr.drew := (Below.refl _ _).drew
      replace Y := jj (Y.out.below hd)
      clear hd
      generalize wr.drew = w1 at Y ⊢
      refine (spec_at bs_ c4 sb (en, em) _ hsb (SibsAt.mono RB.out Y.out.d)).mono ?_
      rintro e w2 ⟨rfl, hb⟩
      rw [hat]
      replace Y := jj (Y.out.below hb)
      clear hb
      go_wp2_with fail
      refine hK.out _ _ (by exact ⟨Y.out.xa.c2.1, Y.out.xa.c2.2.1, Y.out.xb.c2.1, Y.out.xb.c2.2.1, (E.out _ Y.out.d).1, (E.out _ Y.out.d).2.1⟩) (fun hHeld => ?_)
      clear hK K
      try walk_nrm
      refine tk 9 (v := ?_) ?_
      try walk_nrm
      refine tk 10 (v := ?_) ?_
      try walk_nrm
      refine tu 11 ?_
      try walk_nrm
      refine tu 12 ?_
      try walk_nrm
      refine tu 13 ?_
      try walk_nrm
      refine tu 14 ?_
      try walk_nrm
      refine tu 15 ?_
      try walk_nrm
      refine tu 16 ?_
      try walk_nrm
      refine tu 17 ?_
      try walk_nrm
      refine tu 18 ?_
      try walk_nrm
      refine tu 19 ?_
      try walk_nrm
      refine tu 20 ?_
      try walk_nrm
      refine tk 21 (v := ?_) ?_
      try walk_nrm
      refine rx ?_
      go_wp2_with fail
      refine wp_region_held_drew (S := fun w' => w'.cell? ⟨w.heap.size, 1, none⟩ = some (.slice (some ⟨g, off, none⟩) sa.length c2) ∧ w'.cell? ⟨g, off + k * 4, none⟩ = some (.int .i64 en) ∧ w'.cell? ⟨g, off + k * 4 + 1, none⟩ = some (.int .i64 em) ∧ w'.cell? ⟨g, off + k * 4 + 2, none⟩ = some (.bool eg) ∧ w'.cell? ⟨g, off + k * 4 + 3, none⟩ = some (.string ed)) (by kernel_rfl) (by exact ⟨Y.out.xa.c2.2.1, (E.out _ Y.out.d).1, (E.out _ Y.out.d).2.1, (E.out _ Y.out.d).2.2.1, (E.out _ Y.out.d).2.2.2⟩) (fun hHeld => ?_)
      refine tk 0 (v := ?_) ?_
      try walk_nrm
      refine tk 2 (v := ?_) ?_
      try walk_nrm
      refine tk 3 (v := ?_) ?_
      try walk_nrm
      refine tk 4 (v := ?_) ?_
      try walk_nrm
      refine tk 5 (v := ?_) ?_
      try walk_nrm
      refine tk 6 (v := ?_) ?_
      try walk_nrm
      refine rd 1 (fun K hK => ?_)
      have hd : Below w2.heap.size w2 w2.drew := (Below.refl _ _).drew
      replace Y := jj (Y.out.below hd)
      clear hd
      generalize w2.drew = w5 at Y ⊢
      obtain ⟨o0, o1, f0, f1⟩ := Y.out.xo.c2
      go_simp
      clear o0 o1 f0 f1
      refine hK.out _ _ (by exact ⟨Y.out.xa.c2.2.1, (E.out _ Y.out.d).1, (E.out _ Y.out.d).2.1, (E.out _ Y.out.d).2.2.1, (E.out _ Y.out.d).2.2.2⟩) (fun hHeld => ?_)
      clear hK K
      try walk_nrm
      refine rd 7 (fun K hK => ?_)
      go_simp
      refine (spec_in_row qa qc P ((en, em), eg, ed) _ hP Y.out.hh (ROwnIn.at_ Y.out.so)).mono ?_
      rintro e w6 ⟨ra, rc, rfl, hrh, hro, hrw, hb⟩
      have HW6 := jj hrw
      clear hrw
      have HR := jj hrh
      have HO := jj hro
      have HZ := jj hb
      clear hrh hro hb
      have Y0 := jj Y.out
      replace Y := jj (Y.out.below HZ.out)
      go_wp2_with fail
      refine hK.out _ _ (by exact ⟨Y.out.xa.c2.2.1, (E.out _ Y.out.d).1, (E.out _ Y.out.d).2.1, (E.out _ Y.out.d).2.2.1, (E.out _ Y.out.d).2.2.2⟩) (fun hHeld => ?_)
      clear hK K
      try walk_nrm
      refine tk 8 (v := ?_) ?_
      try walk_nrm
      refine rd 9 (fun K hK => ?_)
      go_simp
      --op
      obtain ⟨o0, o1, f0, f1⟩ := Y.out.xo.c2
      go_simp
      replace Y := jj (Y0.out.put HZ.out HO.out HR.out HW6.out (ins_ne _ _))
      clear o0 o1 f0 f1
      refine hK.out _ _ (by exact ⟨Y.out.xa.c2.2.1, (E.out _ Y.out.d).1, (E.out _ Y.out.d).2.1, (E.out _ Y.out.d).2.2.1, (E.out _ Y.out.d).2.2.2⟩) (fun hHeld => ?_)
      clear hK K
      try walk_nrm
      refine rx ?_
      go_wp2
      go_roundw
      case rel => exact ⟨k + 1, ra, rc, by omega, by go_num, by rw [GY.out (by show p1 sb lb _ = true; simp only [p1]; rw [HD.out, hge]; rfl)]; exact Y.out⟩
      case measure => go_light; simp [intOf]; omega
set_option maxRecDepth 100000 in
set_option maxHeartbeats 8000000 in
theorem spec_setSync_row (am as_ bm bs_ : Option Addr) (c1 c2 c3 c4 : Nat) (la lb : List (Int × Int)) (sa sb : List Sib) (w : World) (hla : la.length ≤ maxLen) (hlb : lb.length ≤ maxLen) (hsa : sa.length ≤ maxLen) (hsb : sb.length ≤ maxLen) (hda : SmallData sa) (hdb : SmallData sb)
    (hma : MarksAt w am la) (hmb : MarksAt w bm lb) (hra : SibsAt w as_ sa) (hrb : SibsAt w bs_ sb) :
    Calls Tryz.prog 94 #[.agg #[.slice am la.length c1, .slice as_ sa.length c2], .agg #[.slice bm lb.length c3, .slice bs_ sb.length c4]] w (GivesSR w (synSeen la sa lb sb) (synSibs la sa lb sb) 0 0 (synC la sa lb sb)) := by
  have MA := jj hma
  have MB := jj hmb
  have RA := jj hra
  have RB := jj hrb
  clear hma hmb hra hrb
  obtain ⟨W3, hW3⟩ : ∃ W3, ((w.alloc (.cells #[.slice am la.length c1, .slice as_ sa.length c2] 26)).alloc (.cells #[.slice bm lb.length c3, .slice bs_ sb.length c4] 26)).alloc (.cells #[.slice none 0 0, .slice none 0 0, .int .i64 0, .int .i64 0, .int .i64 0] 65) = W3 := ⟨_, rfl⟩
  have hb1 := step_alloc w (.cells #[.slice am la.length c1, .slice as_ sa.length c2] 26)
  have hb2 := step_alloc (w.alloc (.cells #[.slice am la.length c1, .slice as_ sa.length c2] 26)) (.cells #[.slice bm lb.length c3, .slice bs_ sb.length c4] 26)
  have hb3 := step_alloc ((w.alloc (.cells #[.slice am la.length c1, .slice as_ sa.length c2] 26)).alloc (.cells #[.slice bm lb.length c3, .slice bs_ sb.length c4] 26)) (.cells #[.slice none 0 0, .slice none 0 0, .int .i64 0, .int .i64 0, .int .i64 0] 65)
  have XA := jj (((Cells.new w #[.slice am la.length c1, .slice as_ sa.length c2] 26).below hb2).below hb3)
  have XB := jj ((Cells.new (w.alloc (.cells #[.slice am la.length c1, .slice as_ sa.length c2] 26)) #[.slice bm lb.length c3, .slice bs_ sb.length c4] 26).below hb3)
  have XR := jj (Cells.new ((w.alloc (.cells #[.slice am la.length c1, .slice as_ sa.length c2] 26)).alloc (.cells #[.slice bm lb.length c3, .slice bs_ sb.length c4] 26)) #[.slice none 0 0, .slice none 0 0, .int .i64 0, .int .i64 0, .int .i64 0] 65)
  have D := jj (show Base w (((w.alloc (.cells #[.slice am la.length c1, .slice as_ sa.length c2] 26)).alloc (.cells #[.slice bm lb.length c3, .slice bs_ sb.length c4] 26)).alloc (.cells #[.slice none 0 0, .slice none 0 0, .int .i64 0, .int .i64 0, .int .i64 0] 65)) from (hb1.trans (hb2.mono (by simp))).trans (hb3.mono (by simp; omega)))
  have hsz : (((w.alloc (.cells #[.slice am la.length c1, .slice as_ sa.length c2] 26)).alloc (.cells #[.slice bm lb.length c3, .slice bs_ sb.length c4] 26)).alloc (.cells #[.slice none 0 0, .slice none 0 0, .int .i64 0, .int .i64 0, .int .i64 0] 65)).heap.size = w.heap.size + 3 := by simp
  simp only [World.size_alloc, List.toList_toArray] at XA XB XR
  clear hb1 hb2 hb3
  rw [hW3] at XA
  rw [hW3] at XB
  rw [hW3] at XR
  rw [hW3] at D
  rw [hW3] at hsz
  go_enter Tryz.func94, Tryz.ntmps94
  go_upto_region 1 with fail
  clear hW3
  have R2 := jj (fun (W : World) (h : Base w W) => (⟨MA.out.mono h, MB.out.mono h, SibsAt.mono RA.out h, SibsAt.mono RB.out h⟩ : MarksAt W am la ∧ MarksAt W bm lb ∧ SibsAt W as_ sa ∧ SibsAt W bs_ sb))
  obtain ⟨a0, a1, _⟩ := XA.out.c2
  obtain ⟨b0, b1, _⟩ := XB.out.c2
  have tok : True := trivial
  have tok2 : True := trivial
  cases hsA : setB la sa
  · have hno := jj (synC_form (la := la) (sa := sa) (lb := lb) (sb := sb) (by rw [hsA]; simp))
    go_wp2_with (first | (clear tok; go_at_call 40; refine (spec_setRight am as_ c1 c2 la sa _ hla hsa hda (R2.out _ D.out).1 (R2.out _ D.out).2.2.1).mono ?_; rintro e w1 ⟨rfl, hb⟩; rw [hsA]; replace XR := jj (XR.out.below hb); replace XB := jj (XB.out.below hb); replace XA := jj (XA.out.below hb); replace D := jj (D.out.below hb); clear hb b0 b1 a0 a1; obtain ⟨b0, b1, _⟩ := XB.out.c2; obtain ⟨r0, r1, r2, r3, r4, f0, f1, f2, f3, f4⟩ := XR.out.c5) | (go_at_call 61; refine (spec_ill 1 _).mono ?_; rintro e w3 ⟨rfl, hb⟩; replace XR := jj (XR.out.below hb); replace XB := jj (XB.out.below hb); replace XA := jj (XA.out.below hb); replace D := jj (D.out.below hb); clear hb r0 r1 r2 r3 r4 f0 f1 f2 f3 f4; obtain ⟨r0, r1, r2, r3, r4, f0, f1, f2, f3, f4⟩ := XR.out.c5))
    replace hno := hno.out
    have XF := cells_set5 XR.out (.slice none 0 0) (.slice none 0 0) (.int .i64 0) (.int .i64 0) (.int .i64 1)
    obtain ⟨q0, q1, q2, q3, q4, -⟩ := XF.c5
    refine bodyPost_ret (v := .agg #[.slice none 0 0, .slice none 0 0, .int .i64 0, .int .i64 0, .int .i64 1]) (by simp [results, Tryz.results94, go_sem, q0, q1, q2, q3, q4]) rfl ?_
    rw [hno.1, hno.2.1, hno.2.2]
    exact givesSR_no 1 (D.out.within (within_set5 _ _ _ _ _ _ _) (by omega))
  · cases hsB : setB lb sb
    · have hno := jj (synC_form (la := la) (sa := sa) (lb := lb) (sb := sb) (by rw [hsB]; simp))
      go_wp2_with (first | (clear tok; go_at_call 40; refine (spec_setRight am as_ c1 c2 la sa _ hla hsa hda (R2.out _ D.out).1 (R2.out _ D.out).2.2.1).mono ?_; rintro e w1 ⟨rfl, hb⟩; rw [hsA]; replace XR := jj (XR.out.below hb); replace XB := jj (XB.out.below hb); replace XA := jj (XA.out.below hb); replace D := jj (D.out.below hb); clear hb b0 b1 a0 a1; obtain ⟨b0, b1, _⟩ := XB.out.c2; obtain ⟨r0, r1, r2, r3, r4, f0, f1, f2, f3, f4⟩ := XR.out.c5) | (clear tok2; go_at_call 40; refine (spec_setRight bm bs_ c3 c4 lb sb _ hlb hsb hdb (R2.out _ D.out).2.1 (R2.out _ D.out).2.2.2).mono ?_; rintro e w2 ⟨rfl, hb⟩; rw [hsB]; replace XR := jj (XR.out.below hb); replace XB := jj (XB.out.below hb); replace XA := jj (XA.out.below hb); replace D := jj (D.out.below hb); clear hb b0 b1 r0 r1 r2 r3 r4 f0 f1 f2 f3 f4; obtain ⟨r0, r1, r2, r3, r4, f0, f1, f2, f3, f4⟩ := XR.out.c5; obtain ⟨a0, a1, _⟩ := XA.out.c2; obtain ⟨b0, b1, _⟩ := XB.out.c2) | (go_at_call 61; refine (spec_ill 1 _).mono ?_; rintro e w3 ⟨rfl, hb⟩; replace XR := jj (XR.out.below hb); replace XB := jj (XB.out.below hb); replace XA := jj (XA.out.below hb); replace D := jj (D.out.below hb); clear hb r0 r1 r2 r3 r4 f0 f1 f2 f3 f4; obtain ⟨r0, r1, r2, r3, r4, f0, f1, f2, f3, f4⟩ := XR.out.c5))
      replace hno := hno.out
      have XF := cells_set5 XR.out (.slice none 0 0) (.slice none 0 0) (.int .i64 0) (.int .i64 0) (.int .i64 1)
      obtain ⟨q0, q1, q2, q3, q4, -⟩ := XF.c5
      refine bodyPost_ret (v := .agg #[.slice none 0 0, .slice none 0 0, .int .i64 0, .int .i64 0, .int .i64 1]) (by simp [results, Tryz.results94, go_sem, q0, q1, q2, q3, q4]) rfl ?_
      rw [hno.1, hno.2.1, hno.2.2]
      exact givesSR_no 1 (D.out.within (within_set5 _ _ _ _ _ _ _) (by omega))
    · obtain ⟨LL, hLL⟩ : ∃ LL, synSeen la sa lb sb = LL := ⟨_, rfl⟩
      obtain ⟨SS, hSS⟩ : ∃ SS, synSibs la sa lb sb = SS := ⟨_, rfl⟩
      obtain ⟨CC, hCC⟩ : ∃ CC, synC la sa lb sb = CC := ⟨_, rfl⟩
      have HL := jj hLL
      have HS := jj hSS
      have HC := jj hCC
      clear hLL hSS hCC
      go_wp2_with (first | (clear tok; go_at_call 40; refine (spec_setRight am as_ c1 c2 la sa _ hla hsa hda (R2.out _ D.out).1 (R2.out _ D.out).2.2.1).mono ?_; rintro e w1 ⟨rfl, hb⟩; rw [hsA]; replace XR := jj (XR.out.below hb); replace XB := jj (XB.out.below hb); replace XA := jj (XA.out.below hb); replace D := jj (D.out.below hb); clear hb b0 b1 a0 a1; obtain ⟨b0, b1, _⟩ := XB.out.c2; obtain ⟨r0, r1, r2, r3, r4, f0, f1, f2, f3, f4⟩ := XR.out.c5) | (clear tok2; go_at_call 40; refine (spec_setRight bm bs_ c3 c4 lb sb _ hlb hsb hdb (R2.out _ D.out).2.1 (R2.out _ D.out).2.2.2).mono ?_; rintro e w2 ⟨rfl, hb⟩; rw [hsB]; replace XR := jj (XR.out.below hb); replace XB := jj (XB.out.below hb); replace XA := jj (XA.out.below hb); replace D := jj (D.out.below hb); clear hb b0 b1 r0 r1 r2 r3 r4 f0 f1 f2 f3 f4; obtain ⟨r0, r1, r2, r3, r4, f0, f1, f2, f3, f4⟩ := XR.out.c5; obtain ⟨a0, a1, _⟩ := XA.out.c2; obtain ⟨b0, b1, _⟩ := XB.out.c2) | (go_at_call 108; refine (spec_sync_row am as_ bm bs_ c1 c2 c3 c4 la lb sa sb _ hla hlb hsa hsb hsA hsB (R2.out _ D.out).1 (R2.out _ D.out).2.1 (R2.out _ D.out).2.2.1 (R2.out _ D.out).2.2.2).mono ?_; rintro e w4 ⟨ja, jc, qa, qc, lo1, hi1, lo2, hi2, rfl, hjo, hso, g1, g2, g3, g4, g5, hh, hb, hrw, hnz⟩; have RW := jj hrw; have NZ := jj hnz; clear hrw hnz; have JO := jj hjo; have SO := jj hso; have HH := jj hh; have G := jj (⟨g1, g2, g3, g4, g5⟩ : _ ∧ _ ∧ _ ∧ _ ∧ _); have HD2 := jj (Base.size D.out); have hz2 := hb.size; have hz1 := XR.out.lt; replace XR := jj (XR.out.below hb); replace XB := jj (XB.out.below hb); replace XA := jj (XA.out.below hb); replace D := jj (D.out.below hb); clear hjo hso hh g1 g2 g3 g4 g5 hb r0 r1 r2 r3 r4 f0 f1 f2 f3 f4; obtain ⟨r0, r1, r2, r3, r4, f0, f1, f2, f3, f4⟩ := XR.out.c5; rw [HL.out] at JO ⊢; rw [HS.out] at SO HH RW NZ ⊢; rw [HC.out]))
      have XF := jj (cells_set5 XR.out (.slice ja LL.length jc) (.slice qa SS.length qc) (.int .i64 0) (.int .i64 0) (.int .i64 CC))
      have HWW := jj (within_set5 w4 (w.heap.size + 1 + 1) (.slice ja LL.length jc) (.slice qa SS.length qc) (.int .i64 0) (.int .i64 0) (.int .i64 CC))
      obtain ⟨q0, q1, q2, q3, q4, -⟩ := XF.out.c5
      obtain ⟨g1, g2, g3, g4, g5⟩ := G.out
      have SO6 := jj (ROwnIn.same SO.out (fun b h1 h2 => HWW.out.block b (by omega) (.inr (by omega))))
      have JO6 := jj (OwnIn.same JO.out (fun b h1 h2 => HWW.out.block b (by omega) (.inr (by omega))))
      refine bodyPost_ret (v := .agg #[.slice ja LL.length jc, .slice qa SS.length qc, .int .i64 0, .int .i64 0, .int .i64 CC]) (by simp [results, Tryz.results94, go_sem, q0, q1, q2, q3, q4]) rfl ?_
      have hws := HWW.out.size
      have hd2 := HD2.out
      rw [HL.out, HS.out, HC.out]
      exact ⟨ja, jc, qa, qc, lo1, hi1, lo2, hi2, rfl, JO6.out, SO6.out, by omega, by omega, by omega, by omega, g5, HH.out, D.out.within HWW.out (by omega), row_le (own_within RW.out HWW.out (by omega)) (by omega), NZ.out⟩
end Go.Proofs.YtiaoifodaoifjaaGreat.Sb
