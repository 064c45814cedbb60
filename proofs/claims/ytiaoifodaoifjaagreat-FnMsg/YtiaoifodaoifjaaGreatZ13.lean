/- Parts of a law: SeenBytesS, SetOutVar, Source, DrawG, DrawB, DrawKey, GivesRow, InsMath, Bsearch, With, RangeT, Iter, Collect, SeenJoinS, SeenPutS, SeenRow, LwAt, Seg8, CameOpen. Conditions: on sizes, as each says. -/
import Derived.Test.YtiaoifodaoifjaaGreatZ1
import Derived.WalkArith
import Derived.Test.YtiaoifodaoifjaaGreatZ2
import Derived.Test.YtiaoifodaoifjaaGreatZ5
import Derived.Test.YtiaoifodaoifjaaGreatZ4
import Derived.Test.YtiaoifodaoifjaaGreatZ12
import Derived.Test.YtiaoifodaoifjaaGreatZ11
import Derived.Deep.RegionHeld3
import Derived.Test.YtiaoifodaoifjaaGreatZ7
import Derived.Test.YtiaoifodaoifjaaGreatZ3
import Derived.Test.YtiaoifodaoifjaaGreatZ8
import Derived.Deep.RegionLawGrows
import Derived.RangeFuncNested
import Derived.RangeFuncBound
import Derived.RangeFuncCalls
import Derived.RangeFuncLeaves
import Derived.Shelf.Abstract
import Derived.Shelf.RegionOpen
import Derived.WalkKit
import Derived.OwnWalkIn
import Derived.TacticsInMore
import Derived.LoopNIn
import Derived.LoopIn
import Derived.Deep.RegionWith
import Derived.ProofKit
import Derived.OpenShut
set_option linter.unusedSimpArgs false
set_option linter.unusedVariables false
namespace Go.Proofs.YtiaoifodaoifjaaGreat.Mk
open Go.RowKit
theorem ret_str {a b : ByteArray} (h : a = b) : Ending.returned (.string a) = .returned (.string b) := by rw [h]
theorem wf_dot {m : Int × Int} (h : dotB m = true) : (Lit.int .i64 m.1).wf = true ∧ (Lit.int .i64 m.2).wf = true := by
  have := (dotB_iff m).1 h
  exact ⟨WalkArith.wf_i64 (by omega), WalkArith.wf_i64 (by omega)⟩
set_option maxRecDepth 100000 in
set_option maxHeartbeats 2000000 in
theorem spec_bytes (a : Option Addr) (cap : Nat) (l : List (Int × Int)) (w : World) (hr : rightB l = true) (h : MarksAt w a l) :
    Calls Tryz.prog 90 #[.slice a l.length cap] w fun e w' => e = .returned (.string (bytesV l)) ∧ Below w.heap.size w w' := by
  have H := jj h
  have HR := jj hr
  have h5 := right_len hr
  clear h hr
  go_enter Tryz.func90, Tryz.ntmps90
  go_wp2_with fail
  refine (Nu.spec_PutNum (l.length : Int) (WalkArith.wf_i64 (by omega)) _).mono ?_
  rintro e w0 ⟨rfl, hb0⟩
  rw [Nu.numS_mk]
  have HB0 := jj hb0
  clear hb0
  go_wp2
  go_loopw [3, 4] (fun z i wr => ∃ (k : Nat) (t : ByteArray), k ≤ l.length ∧ i = .int .i64 k ∧ z = .string t ∧ upTo l k t ∧ Below w.heap.size w wr) (fun _ i _ => l.length - (intOf i).toNat)
  case atStart => exact ⟨0, _, Nat.zero_le _, rfl, rfl, upTo_zero l h5, HB0.out⟩
  case round =>
    obtain ⟨k, t, hk, rfl, rfl, ht, hbel⟩ := hrel
    have HT := jj ht
    have hts := ht.2
    have HB := jj hbel
    clear ht hbel
    by_cases hlt : k < l.length
    · obtain ⟨g, off, rfl, hg, c0, c1⟩ := (H.out.mono HB.out).cells hlt
      have hd := right_dot HR.out _ (List.getElem_mem hlt)
      have HN := jj (upTo_next HT.out hlt hd)
      have hw := wf_dot hd
      have hm := (dotB_iff _).1 hd
      clear hd
      generalize l[k] = m at c0 c1 HN hw hm
      obtain ⟨x, y⟩ := m
      simp only at c0 c1 HN hw hm
      have Wx := jj hw.1
      have Wy := jj hw.2
      have sx := Nu.numS_size_of x (by omega)
      have sy := Nu.numS_size_of y (by omega)
      have i0 : (0 : Int) ≤ (k : Int) := by omega
      have i1 : (k : Int) < (l.length : Int) := by omega
      have z1 : ¬ 9223372036854775807 < t.size + (Nu.numS x).size := by omega
      have z2 : ¬ 9223372036854775807 < t.size + (Nu.numS x).size + (Nu.numS y).size := by omega
      clear hw
      go_wp2_with fail
      refine wp_region_held_drew (S := (fun w' => w'.cell? ⟨g, off + k * 2, none⟩ = some (.int .i64 x) ∧ w'.cell? ⟨g, off + k * 2 + 1, none⟩ = some (.int .i64 y) ∧ g < w'.heap.size)) (by kernel_rfl) (by first | exact ⟨c0, c1, hg⟩ | (go_split_ands; refine ⟨?_, ?_, ?_⟩; (rw [hb.cell (by assumption)]; assumption); (rw [hb.cell (by assumption)]; assumption); (have := hb.size; omega))) (fun hHeld => ?_)
      refine tk 0 (v := ?_) ?_
      try walk_nrm
      refine tk 1 (v := ?_) ?_
      try walk_nrm
      refine tk 2 (v := ?_) ?_
      try walk_nrm
      refine tk 3 (v := ?_) ?_
      try walk_nrm
      refine tk 4 (v := ?_) ?_
      try walk_nrm
      refine tk 5 (v := ?_) ?_
      try walk_nrm
      refine tk 8 (v := ?_) ?_
      try walk_nrm
      refine tk 9 (v := ?_) ?_
      try walk_nrm
      refine tk 10 (v := ?_) ?_
      try walk_nrm
      refine tk 11 (v := ?_) ?_
      try walk_nrm
      refine tk 12 (v := ?_) ?_
      try walk_nrm
      refine rd 6 (fun K hK => ?_)
      go_simp
      go_at_call 65; refine (Nu.spec_PutNum x Wx.out _).mono ?_; rintro e w1 ⟨rfl, hb⟩; rw [Nu.numS_mk]; have HB1 := jj (HB.out.drew.trans (hb.mono HB.out.size))
      go_wp2_with fail
      refine hK.out _ _ (by first | exact ⟨c0, c1, hg⟩ | (go_split_ands; refine ⟨?_, ?_, ?_⟩; (rw [hb.cell (by assumption)]; assumption); (rw [hb.cell (by assumption)]; assumption); (have := hb.size; omega))) (fun hHeld => ?_)
      clear hK K
      try walk_nrm
      refine tk 7 (v := ?_) ?_
      try walk_nrm
      refine rd 13 (fun K hK => ?_)
      go_simp
      go_at_call 65; refine (Nu.spec_PutNum y Wy.out _).mono ?_; rintro e w2 ⟨rfl, hb⟩; rw [Nu.numS_mk]; have HB2 := jj (HB1.out.trans (hb.mono HB1.out.size))
      go_wp2_with fail
      refine hK.out _ _ (by first | exact ⟨c0, c1, hg⟩ | (go_split_ands; refine ⟨?_, ?_, ?_⟩; (rw [hb.cell (by assumption)]; assumption); (rw [hb.cell (by assumption)]; assumption); (have := hb.size; omega))) (fun hHeld => ?_)
      clear hK K
      try walk_nrm
      refine tk 14 (v := ?_) ?_
      try walk_nrm
      refine tk 15 (v := ?_) ?_
      try walk_nrm
      refine rx ?_
      go_wp2
      go_roundw
      case rel => exact ⟨k + 1, _, by omega, by go_num, rfl, HN.out, HB2.out⟩
      case measure => go_light; simp [intOf]; omega
    · go_wp2
      go_ret
      exact ⟨ret_str (upTo_end HT.out (by omega) HR.out), HB.out⟩
end Go.Proofs.YtiaoifodaoifjaaGreat.Mk
namespace Go.Proofs.YtiaoifodaoifjaaGreat.Sb
open Go.RowKit Go.Proofs.YtiaoifodaoifjaaGreat.Mk Go.Proofs.YtiaoifodaoifjaaGreat.Rw
structure Var5 (w : World) (g : Nat) (u v x y z : Value) : Prop where
  c0 : w.cell? ⟨g, 0, none⟩ = some u
  c1 : w.cell? ⟨g, 1, none⟩ = some v
  c2 : w.cell? ⟨g, 2, none⟩ = some x
  c3 : w.cell? ⟨g, 3, none⟩ = some y
  c4 : w.cell? ⟨g, 4, none⟩ = some z
  lt : g < w.heap.size
theorem Var5.of {w : World} {g : Nat} {u v x y z : Value} (h : Cells w g [u, v, x, y, z]) : Var5 w g u v x y z := by
  obtain ⟨a, b, c, d, e, -⟩ := h.c5
  exact ⟨a, b, c, d, e, h.lt⟩
theorem Var5.below {w w' : World} {g : Nat} {u v x y z : Value} (h : Var5 w g u v x y z) (hb : Below w.heap.size w w') : Var5 w' g u v x y z :=
  ⟨(hb.cell (p := ⟨g, 0, none⟩) h.lt).trans h.c0, (hb.cell (p := ⟨g, 1, none⟩) h.lt).trans h.c1, (hb.cell (p := ⟨g, 2, none⟩) h.lt).trans h.c2, (hb.cell (p := ⟨g, 3, none⟩) h.lt).trans h.c3, (hb.cell (p := ⟨g, 4, none⟩) h.lt).trans h.c4, Nat.lt_of_lt_of_le h.lt hb.size⟩
theorem Var5.within {w w' : World} {lo hi g : Nat} {u v x y z : Value} (h : Var5 w g u v x y z) (hw : Within lo hi w w') (ha : g < lo ∨ hi ≤ g) : Var5 w' g u v x y z := by
  have e := hw.block g h.lt ha
  exact ⟨(World.cell?_of_block (a := ⟨g, 0, none⟩) e).trans h.c0, (World.cell?_of_block (a := ⟨g, 1, none⟩) e).trans h.c1, (World.cell?_of_block (a := ⟨g, 2, none⟩) e).trans h.c2, (World.cell?_of_block (a := ⟨g, 3, none⟩) e).trans h.c3, (World.cell?_of_block (a := ⟨g, 4, none⟩) e).trans h.c4, Nat.lt_of_lt_of_le h.lt hw.size⟩
theorem Var5.new (w : World) (u v x y z : Value) (t : TypeId) : Var5 (w.alloc (.cells #[u, v, x, y, z] t)) w.heap.size u v x y z := Var5.of (Cells.new w #[u, v, x, y, z] t)
def New5 (w : World) (g : Nat) (u v x y z : Value) : Prop := Cells w g [u, v, x, y, z]
theorem New5.below {w w' : World} {g : Nat} {u v x y z : Value} (h : New5 w g u v x y z) (hb : Below w.heap.size w w') : New5 w' g u v x y z := Cells.below h hb
theorem New5.within {w w' : World} {lo hi g : Nat} {u v x y z : Value} (h : New5 w g u v x y z) (hw : Within lo hi w w') (ha : g < lo ∨ hi ≤ g) : New5 w' g u v x y z := Cells.within h hw ha
theorem New5.new (w : World) (u v x y z : Value) (t : TypeId) : New5 (w.alloc (.cells #[u, v, x, y, z] t)) w.heap.size u v x y z := Cells.new w #[u, v, x, y, z] t
theorem New5.all {w : World} {g : Nat} {u v x y z : Value} (h : New5 w g u v x y z) : w.cell? ⟨g, 0, none⟩ = some u ∧ w.cell? ⟨g, 1, none⟩ = some v ∧ w.cell? ⟨g, 2, none⟩ = some x ∧ w.cell? ⟨g, 3, none⟩ = some y ∧ w.cell? ⟨g, 4, none⟩ = some z ∧ w.frozen? ⟨g, 0, none⟩ = false ∧ w.frozen? ⟨g, 1, none⟩ = false ∧ w.frozen? ⟨g, 2, none⟩ = false ∧ w.frozen? ⟨g, 3, none⟩ = false ∧ w.frozen? ⟨g, 4, none⟩ = false ∧ g < w.heap.size := by
  obtain ⟨a, b, c, d, e, f0, f1, f2, f3, f4⟩ := Cells.c5 h
  exact ⟨a, b, c, d, e, f0, f1, f2, f3, f4, Cells.lt h⟩
theorem New5.store {w : World} {g : Nat} {u v x y z : Value} (h : New5 w g u v x y z) (v0 v1 v2 v3 v4 : Value) : Var5 (((((w.setCell ⟨g, 0, none⟩ v0).setCell ⟨g, 1, none⟩ v1).setCell ⟨g, 2, none⟩ v2).setCell ⟨g, 3, none⟩ v3).setCell ⟨g, 4, none⟩ v4) g v0 v1 v2 v3 v4 := Var5.of (cells_set5 h v0 v1 v2 v3 v4)
end Go.Proofs.YtiaoifodaoifjaaGreat.Sb
namespace Go.Proofs.YtiaoifodaoifjaaGreat.Dr
open Go.RowKit Nu
theorem Src.setSize {w : World} {B g : Nat} {a : Option Addr} {len cap at_ mix : Nat} {sz : Int} (h : Src w B g a len cap at_ mix sz) (x : Int) : Src (w.setCell ⟨g, 3, none⟩ (.int .i64 x)) B g a len cap at_ mix x where
  c0 := by rw [World.cell?_setCell_other _ _ _ _ (ne_off (by omega))]; exact h.c0
  c1 := by rw [World.cell?_setCell_other _ _ _ _ (ne_off (by omega))]; exact h.c1
  c2 := by rw [World.cell?_setCell_other _ _ _ _ (ne_off (by omega))]; exact h.c2
  c3 := World.cell?_setCell_same _ _ _ h.c3
  free := fun j => by rw [World.frozen?_setCell]; exact h.free j
  hat := h.hat
  hlen := h.hlen
  hmix := h.hmix
  hB := h.hB
  row := h.row.below ((Below.refl _ _).setCell h.hB _)
theorem wrap_nat (x : Int) : ∃ m : Nat, m < 18446744073709551616 ∧ IntKind.u64.wrap x = (m : Int) := by
  rw [IntKind.wrap_u64]; exact ⟨(x % 18446744073709551616).toNat, by omega, by omega⟩
theorem src_new (w : World) (a : Option Addr) (len cap : Nat) (hl : len ≤ 1048576) (h : Bytes8 w w.heap.size a len) :
    Src (w.alloc (.cells #[.slice a len cap, .int .i64 0, .int .u64 88172645463325252, .int .i64 0] 86)) w.heap.size w.heap.size a len cap 0 88172645463325252 0 where
  c0 := by rw [World.cell?_alloc_mark]; rfl
  c1 := by rw [World.cell?_alloc_mark]; rfl
  c2 := by rw [World.cell?_alloc_mark]; rfl
  c3 := by rw [World.cell?_alloc_mark]; rfl
  free := fun j => by rw [World.frozen?_alloc_mark]; simp
  hat := by omega
  hlen := hl
  hmix := by omega
  hB := Nat.le_refl _
  row := h.below ((Below.refl _ _).alloc (Nat.le_refl _) _)
def Sourced (w : World) (e : Ending) (w' : World) : Prop :=
  e = .returned (.pointer (some ⟨w.heap.size, 0, none⟩)) ∧ HasSrc w' w.heap.size w.heap.size ∧ Below w.heap.size w w'
set_option maxRecDepth 100000 in
set_option maxHeartbeats 2000000 in
theorem source_new (w : World) (a : Option Addr) (len cap : Nat) (hl : len ≤ 1048576) (h : Bytes8 w w.heap.size a len) :
    Calls Tryz.prog 17 #[.slice a len cap] w (Sourced w) := by
  have H := jj h
  clear h
  go_enter Tryz.func17, Tryz.ntmps17
  go_wp2
  go_loopw [4] (fun i wr => ∃ k mix : Nat, k ≤ len ∧ k ≤ 64 ∧ i = .int .i64 (k : Int) ∧ Src wr w.heap.size w.heap.size a len cap 0 mix 0 ∧ Below w.heap.size w wr) (fun i _ => 64 - (intOf i).toNat)
  case atStart => exact ⟨0, _, by omega, by omega, rfl, src_new w a len cap hl H.out, (Below.refl _ _).alloc (Nat.le_refl _) _⟩
  case round =>
    obtain ⟨k, mix, hk, hk6, rfl, hS, hbel⟩ := hrel
    have HS := jj hS
    have HB := jj hbel
    clear hbel
    by_cases hgo : k < len ∧ k < 64
    · obtain ⟨hg1, hg2⟩ := hgo
      obtain ⟨b, off, ha, hb, hrow⟩ : ∃ b off, a = some ⟨b, off, none⟩ ∧ b < w.heap.size ∧ ∀ i, i < len → ∃ z : Nat, z < 256 ∧ wr.cell? ⟨b, off + i, none⟩ = some (.int .u8 (z : Int)) := by
        rcases hS.row with h | h
        · omega
        · exact h
      subst ha
      obtain ⟨z, hz, iz⟩ := hrow k hg1
      have i2 := hS.c2
      obtain ⟨m1, hm1, he1⟩ := xor_u64 (mix : Int) (z : Int)
      obtain ⟨m2, hm2, he2⟩ := wrap_nat ((m1 : Int) * 1099511628211)
      have HM := jj hm2
      have t0 : (0 : Int) ≤ (k : Int) := by omega
      have t1 : (k : Int) < (len : Int) := by omega
      clear hS hrow hm1 hm2
      go_wp2
      go_still_tail 14, (by kernel_rfl)
      change wpList _ _ _ _ _ wr.drew
      have i2' : wr.drew.cell? ⟨w.heap.size, 2, none⟩ = some (.int .u64 (mix : Int)) := i2
      have f2' : wr.drew.frozen? ⟨w.heap.size, 2, none⟩ = false := HS.out.free 2
      have HS2 := jj (HS.out.drew.setMix m2 HM.out)
      have HB2 := jj (HB.out.drew.setCell (p := ⟨w.heap.size, 2, none⟩) (Nat.le_refl _) (.int .u64 (m2 : Int)))
      clear i2 iz
      generalize wr.drew = w2 at i2' f2' HS2 HB2 ⊢
      go_wp2
      go_roundw
      case rel => exact ⟨k + 1, m2, by omega, by omega, by go_num, HS2.out, HB2.out⟩
      case measure => go_light; simp [intOf]; omega
    · have i3 := hS.c3
      have f3 := hS.free 3
      clear hS
      have fin : ∀ x : Int, Sourced w (.returned (.pointer (some ⟨w.heap.size, 0, none⟩))) (wr.setCell ⟨w.heap.size, 3, none⟩ (.int .i64 x)) := fun x =>
        ⟨rfl, ⟨_, _, _, _, _, _, HS.out.setSize x⟩, HB.out.setCell (Nat.le_refl _) _⟩
      have fin2 : ∀ x y : Int, Sourced w (.returned (.pointer (some ⟨w.heap.size, 0, none⟩))) ((wr.setCell ⟨w.heap.size, 3, none⟩ (.int .i64 x)).setCell ⟨w.heap.size, 3, none⟩ (.int .i64 y)) := fun x y =>
        ⟨rfl, ⟨_, _, _, _, _, _, (HS.out.setSize x).setSize y⟩, (HB.out.setCell (Nat.le_refl _) _).setCell (Nat.le_refl _) _⟩
      have FIN := jj fin
      have FIN2 := jj fin2
      clear fin fin2
      by_cases hle : k < len
      · have hk64 : k = 64 := by omega
        subst hk64
        go_wp2
        all_goals go_ret
        all_goals first | exact FIN.out _ | exact FIN2.out _ _
      · go_wp2
        all_goals go_ret
        all_goals first | exact FIN.out _ | exact FIN2.out _ _
def Came (w : World) (a : Option Addr) (len cap : Nat) (zs : List Int) : Prop :=
  (a = none ∧ len = 0 ∧ cap = 0 ∧ zs = []) ∨
  ∃ x, a = some x ∧ len ≤ cap ∧ cap ≤ maxLen ∧ zs.length = cap ∧ (∀ i, i < zs.length → w.cell? (x.add i) = some (.int .u8 (zs.getD i 0))) ∧ ∀ n ∈ zs, (Lit.int .u8 n).wf = true
theorem Came.bytes {w : World} {a : Option Addr} {len cap : Nat} {zs : List Int} (h : Came w a len cap zs) : Bytes8 w w.heap.size a len ∧ len ≤ maxLen := by
  rcases h with ⟨_, rfl, _, _⟩ | ⟨x, rfl, hl, hm, hz, hc, hw⟩
  · exact ⟨.inl rfl, Nat.zero_le _⟩
  · refine ⟨?_, Nat.le_trans hl hm⟩
    by_cases h0 : len = 0
    · exact .inl h0
    right
    obtain ⟨b, off, spot⟩ := x
    have c0 := hc 0 (by omega)
    have hspot : spot = none := by simpa [Addr.add] using World.cell?_spot c0
    subst hspot
    refine ⟨b, off, rfl, by simpa [Addr.add] using World.block_lt_of_cell? w _ c0, fun i hi => ?_⟩
    have hi' : i < zs.length := by omega
    have c1 := hc i hi'
    have e : (⟨b, off, none⟩ : Addr).add i = ⟨b, off + i, none⟩ := by unfold Addr.add; split <;> simp_all
    rw [e] at c1
    have hg : zs.getD i 0 = zs[i] := by simp [List.getD, hi']
    have hb := bounds_u8 (hw zs[i] (List.getElem_mem hi'))
    rw [hg] at c1
    exact ⟨zs[i].toNat, by omega, by rw [c1]; congr 2; omega⟩
end Go.Proofs.YtiaoifodaoifjaaGreat.Dr
namespace Go.Proofs.YtiaoifodaoifjaaGreat.Mk
open Go.RowKit Dr
theorem wpAnyH_mono {P : Program} {md : Region.Mode} {ops : Array Oper} {Q : Exit → Act → World → Prop} {S S' : World → Prop} (h : ∀ w, S' w → S w) :
    ∀ (fuel : Nat) (listed : Array Bool) (a : Act) (w : World), wpAnyH P md ops Q S' fuel listed a w → wpAnyH P md ops Q S fuel listed a w
  | 0, _, _, _, hh => hh
  | fuel + 1, _, _, _, hh => ⟨hh.1, fun i hi => wpOp_mono (fun a' w' h' => ⟨h _ h'.1, wpAnyH_mono h fuel _ a' w' h'.2⟩) (hh.2 i hi)⟩
theorem within_grown {w w' : World} {g : Nat} (h : w.grownBy w' (some g)) : Within g (g + 1) w w' :=
  ⟨h.os, h.tape, h.output, h.size, fun k hk ho => h.block k hk (fun e => by injection e with e; omega)⟩
theorem Within.onto {lo hi : Nat} {w0 w w' : World} (h : Within lo hi w0 w) (hb : Below w.heap.size w w') : Within lo hi w0 w' :=
  h.trans ⟨hb.os, hb.tape, hb.output, hb.size, fun k hk _ => hb.block k hk⟩
theorem Within.new {lo hi lo' hi' : Nat} {w0 w w' : World} (h : Within lo hi w0 w) (hw : Within lo' hi' w w') (hl : w0.heap.size ≤ lo') : Within lo hi w0 w' :=
  ⟨hw.os.trans h.os, hw.tape.trans h.tape, hw.output.trans h.output, Nat.le_trans h.size hw.size, fun k hk ho => (hw.block k (Nat.lt_of_lt_of_le hk h.size) (by omega)).trans (h.block k hk ho)⟩
theorem hasSrc_same {w w' : World} {B g : Nat} (h : HasSrc w B g) (hs : ∀ k, k < w.heap.size → k < B ∨ k = g → w'.heap[k]? = w.heap[k]?) : HasSrc w' B g := by
  obtain ⟨a, len, cap, at_, mix, sz, S⟩ := h
  have hg : g < w.heap.size := by simpa using World.block_lt_of_cell? w _ S.c0
  have e := hs g hg (.inr rfl)
  refine ⟨a, len, cap, at_, mix, sz, ⟨(World.cell?_of_block (a := ⟨g, 0, none⟩) e).trans S.c0, (World.cell?_of_block (a := ⟨g, 1, none⟩) e).trans S.c1, (World.cell?_of_block (a := ⟨g, 2, none⟩) e).trans S.c2, (World.cell?_of_block (a := ⟨g, 3, none⟩) e).trans S.c3,
    fun j => (World.frozen?_of_block (a := ⟨g, j, none⟩) e).trans (S.free j), S.hat, S.hlen, S.hmix, S.hB, ?_⟩⟩
  rcases S.row with h0 | ⟨b, off, ha, hb, hc⟩
  · exact .inl h0
  · exact .inr ⟨b, off, ha, hb, fun i hi => by
      obtain ⟨z, hz, hcell⟩ := hc i hi
      have hbl := World.block_lt_of_cell? w _ hcell
      exact ⟨z, hz, (World.cell?_of_block (a := ⟨b, off + i, none⟩) (hs b hbl (.inl hb))).trans hcell⟩⟩
theorem hasSrc_below {w w' : World} {B g : Nat} (h : HasSrc w B g) (hb : Below w.heap.size w w') : HasSrc w' B g := hasSrc_same h fun k hk _ => hb.block k hk
theorem hasSrc_within {w w' : World} {B g lo hi : Nat} (h : HasSrc w B g) (hw : Within lo hi w w') (h1 : g < lo ∨ hi ≤ g) (h2 : B ≤ lo) : HasSrc w' B g := hasSrc_same h fun k hk ho => hw.block k hk (by omega)
end Go.Proofs.YtiaoifodaoifjaaGreat.Mk
namespace Go.Proofs.YtiaoifodaoifjaaGreat.Dr
theorem HasSrc.below {w w' : World} {B g : Nat} (h : HasSrc w B g) (hb : RowKit.Below w.heap.size w w') : HasSrc w' B g := Mk.hasSrc_below h hb
theorem HasSrc.within {w w' : World} {B g lo hi : Nat} (h : HasSrc w B g) (hw : Mk.Within lo hi w w') (h1 : g < lo ∨ hi ≤ g) (h2 : B ≤ lo) : HasSrc w' B g := Mk.hasSrc_within h hw h1 h2
end Go.Proofs.YtiaoifodaoifjaaGreat.Dr
namespace Go.Proofs.YtiaoifodaoifjaaGreat.Mk
open Go.RowKit Dr
theorem bw {w0 w w' : World} {lo hi : Nat} (h : Below w0.heap.size w0 w) (hw : Within lo hi w w') (hl : w0.heap.size ≤ lo) : Below w0.heap.size w0 w' := h.trans (hw.below hl h.size)
def Code (w : World) (a : Option Addr) (len : Nat) : Prop := len ≤ 1048576 ∧ Bytes8 w w.heap.size a len
open Go.RowKit Dr
def STab (w : World) (g : Nat) (l : List ByteArray) : Prop := (∀ i (h : i < l.length), w.cell? ⟨g, i, none⟩ = some (.string l[i])) ∧ g < w.heap.size
theorem STab.within {w w' : World} {g lo hi : Nat} {l : List ByteArray} (h : STab w g l) (hw : Within lo hi w w') (ha : g < lo ∨ hi ≤ g) : STab w' g l :=
  ⟨fun i hi => (World.cell?_of_block (a := ⟨g, i, none⟩) (hw.block g h.2 ha)).trans (h.1 i hi), Nat.lt_of_lt_of_le h.2 hw.size⟩
theorem STab.new (w : World) (l : List ByteArray) (t : TypeId) : STab (w.alloc (.cells (l.map Value.string).toArray t)) w.heap.size l :=
  ⟨fun i hi => by rw [World.cell?_alloc_mark]; simp [hi], by simp⟩
def DrawnKey (w : World) (B g : Nat) (e : Ending) (w' : World) : Prop :=
  ∃ t : ByteArray, t.size ≤ 4 ∧ e = .returned (.string t) ∧ HasSrc w' B g ∧ Within g (g + 1) w w'
set_option maxRecDepth 100000 in
theorem pick_draw (w : World) (B g b n : Nat) (l : List ByteArray) (hn : l.length = n) (h1 : 1 < n) (h2 : n ≤ 1000) (hl : ∀ t ∈ l, t.size ≤ 4) (hb : b ≠ g) (hT : STab w b l) (h : HasSrc w B g) :
    Calls Tryz.prog 48 #[.pointer (some ⟨g, 0, none⟩), .slice (some ⟨b, 0, none⟩) n n] w (DrawnKey w B g) := by
  subst hn
  have H := jj (n_draw w B g l.length h1 (by omega) h)
  have T := jj hT
  have HL := jj hl
  clear h hT hl
  go_enter Tryz.func48, Tryz.ntmps48
  go_wp2_with fail
  refine H.out.mono ?_
  rintro e w1 ⟨r, hr, rfl, hs, hg⟩
  have hw := within_grown hg
  have hc := (T.out.within hw (by omega)).1 r hr
  have ht := HL.out _ (List.getElem_mem hr)
  have HS := jj hs
  have HW := jj hw
  have t0 : (0 : Int) ≤ (r : Int) := by omega
  have t1 : (r : Int) < (l.length : Int) := by omega
  clear hs hg hw
  generalize l[r] = t at hc ht
  go_wp2
  go_ret
  exact ⟨t, ht, rfl, HS.out, HW.out⟩
theorem keys2 : ∀ t ∈ [(⟨#[]⟩ : ByteArray), ⟨#[65]⟩], t.size ≤ 4 := by
  intro t ht; simp at ht; rcases ht with rfl | rfl <;> decide
theorem keys4 : ∀ t ∈ [(⟨#[99, 97, 114, 116]⟩ : ByteArray), ⟨#[117, 115, 101, 114]⟩, ⟨#[120]⟩, ⟨#[121]⟩], t.size ≤ 4 := by
  intro t ht; simp at ht; rcases ht with rfl | rfl | rfl | rfl <;> decide
set_option maxRecDepth 100000 in
set_option maxHeartbeats 1000000 in
theorem key_draw (w : World) (B g : Nat) (h : HasSrc w B g) : Calls Tryz.prog 47 #[.pointer (some ⟨g, 0, none⟩)] w (DrawnKey w B g) := by
  have H := jj (one_draw w B g 20 (by omega) (by omega) h)
  clear h
  go_enter Tryz.func47, Tryz.ntmps47
  go_wp2_with fail
  refine H.out.mono ?_
  rintro e w1 ⟨r, rfl, hs, hg⟩
  have HW := jj (within_grown hg)
  have HS := jj hs
  have z := hs.lt
  clear hs hg H
  cases r
  · go_wp2_with fail
    have HA := jj (HS.out.grown (World.grownBy_alloc w1 (.cells #[.string ⟨#[99, 97, 114, 116]⟩, .string ⟨#[117, 115, 101, 114]⟩, .string ⟨#[120]⟩, .string ⟨#[121]⟩] 9) none) (by simp) (by simp) (by omega))
    refine (pick_draw _ B g w1.heap.size 4 [⟨#[99, 97, 114, 116]⟩, ⟨#[117, 115, 101, 114]⟩, ⟨#[120]⟩, ⟨#[121]⟩] rfl (by omega) (by omega) keys4 (by omega) (STab.new w1 _ _) HA.out).mono ?_
    rintro e w2 ⟨t, ht, rfl, hs, hw⟩
    have HS2 := jj hs
    have HW2 := jj ((HW.out.onto ((Below.refl _ _).alloc (Nat.le_refl _) _)).trans hw)
    clear hs hw
    go_wp2
    go_ret
    exact ⟨t, ht, rfl, HS2.out, HW2.out⟩
  · go_wp2_with fail
    have HA := jj (HS.out.grown (World.grownBy_alloc w1 (.cells #[.string ⟨#[]⟩, .string ⟨#[65]⟩] 9) none) (by simp) (by simp) (by omega))
    refine (pick_draw _ B g w1.heap.size 2 [⟨#[]⟩, ⟨#[65]⟩] rfl (by omega) (by omega) keys2 (by omega) (STab.new w1 _ _) HA.out).mono ?_
    rintro e w2 ⟨t, ht, rfl, hs, hw⟩
    have HS2 := jj hs
    have HW2 := jj ((HW.out.onto ((Below.refl _ _).alloc (Nat.le_refl _) _)).trans hw)
    clear hs hw
    go_wp2
    go_ret
    exact ⟨t, ht, rfl, HS2.out, HW2.out⟩
end Go.Proofs.YtiaoifodaoifjaaGreat.Mk
namespace Go.Proofs.YtiaoifodaoifjaaGreat.Sb
open Go.RowKit Go.Proofs.YtiaoifodaoifjaaGreat.Mk Go.Proofs.YtiaoifodaoifjaaGreat.Rw
def GivesSR (w : World) (l : List (Int × Int)) (s : List Sib) (x y c : Int) (e : Ending) (w' : World) : Prop :=
  ∃ a cap b cap' lo1 hi1 lo2 hi2, e = .returned (.agg #[.slice a l.length cap, .slice b s.length cap', .int .i64 x, .int .i64 y, .int .i64 c]) ∧ OwnIn w' lo1 hi1 a l ∧ SOwnIn w' lo2 hi2 b s ∧ w.heap.size ≤ lo1 ∧ w.heap.size ≤ lo2 ∧ hi1 ≤ w'.heap.size ∧ hi2 ≤ w'.heap.size ∧ (hi1 ≤ lo2 ∨ hi2 ≤ lo1) ∧ Head b s.length cap' ∧ Below w.heap.size w w' ∧
    w'.ownsRow w.heap.size 94 4 (.slice b s.length cap') s.length (flatE 4 senc s) ∧ (s = [] → b = none)
theorem GivesSR.so {w : World} {l : List (Int × Int)} {s : List Sib} {x y c : Int} {e : Ending} {w' : World} (h : GivesSR w l s x y c e w') : GivesSO w l s x y c e w' := by
  obtain ⟨a, cap, b, cap', lo1, hi1, lo2, hi2, h1, h2, h3, h4, h5, h6, h7, h8, h9, h10, _⟩ := h
  exact ⟨a, cap, b, cap', lo1, hi1, lo2, hi2, h1, h2, h3, h4, h5, h6, h7, h8, h9, h10⟩
theorem givesSR_no {w w' : World} (c : Int) (hb : Below w.heap.size w w') : GivesSR w [] [] 0 0 c (.returned (.agg #[.slice none 0 0, .slice none 0 0, .int .i64 0, .int .i64 0, .int .i64 c])) w' :=
  ⟨none, 0, none, 0, w.heap.size, w.heap.size, w.heap.size, w.heap.size, rfl, .inl rfl, .inl rfl, Nat.le_refl _, Nat.le_refl _, hb.size, hb.size, .inl (Nat.le_refl _), .inl ⟨rfl, rfl, rfl⟩, hb, World.ownsRow_nil _ _ _ _, fun _ => rfl⟩
theorem row_le {w : World} {B B' n : Nat} {v : Value} {xs : List Value} (h : w.ownsRow B 94 4 v n xs) (hB : B' ≤ B) : w.ownsRow B' 94 4 v n xs := by
  obtain ⟨h1, h2⟩ := h
  refine ⟨h1, ?_⟩
  rcases h2 with h2 | ⟨g, cap, cur, hv, hg, r⟩
  · exact .inl h2
  · exact .inr ⟨g, cap, cur, hv, Nat.le_trans hB hg, r⟩
open Go.Proofs.YtiaoifodaoifjaaGreat.Mk
def Less (x y : Sib) : Prop := lessB x.1 y.1 = true
theorem inc_pairwise {s : List Sib} : Inc s ↔ s.Pairwise Less := by
  rw [List.pairwise_iff_getElem]
  constructor
  · intro h i j hi hj hij
    have := h.lt' hij hj
    rwa [getD_eq s i hi, getD_eq s j hj] at this
  · intro h k hk
    have := h k (k + 1) (by omega) hk (by omega)
    rw [getD_eq s k (by omega), getD_eq s (k + 1) hk]
    exact this
theorem Inc.filter {s : List Sib} (h : Inc s) (p : Sib → Bool) : Inc (s.filter p) := inc_pairwise.2 ((inc_pairwise.1 h).filter p)
theorem Inc.nil : Inc [] := fun k hk => by simp at hk
theorem Inc.tail {x : Sib} {s : List Sib} (h : Inc (x :: s)) : Inc s := inc_pairwise.2 (inc_pairwise.1 h).of_cons
theorem pos_last {s : List Sib} {d : Int × Int} (h : ∀ y ∈ s, lessB y.1 d = true) : pos s d = s.length :=
  pos_unique s d s.length (Nat.le_refl _) (fun q hq => by rw [getD_eq s q hq]; exact h _ (List.getElem_mem hq)) (fun h => absurd h (Nat.lt_irrefl _))
theorem ins_last {s : List Sib} {x : Sib} (h : ∀ y ∈ s, Less y x) : ins s x = s ++ [x] := by
  unfold ins; rw [pos_last h]; simp
def collect (xs : List Sib) : List Sib := xs.foldl ins []
theorem collect_from : ∀ (xs pre : List Sib), Inc (pre ++ xs) → xs.foldl ins pre = pre ++ xs
  | [], pre, _ => by simp
  | x :: xs, pre, h => by
    have hp := inc_pairwise.1 h
    have hl : ∀ y ∈ pre, Less y x := fun y hy => (List.pairwise_append.1 hp).2.2 y hy x (by simp)
    rw [List.foldl_cons, ins_last hl, collect_from xs (pre ++ [x]) (by simpa using h)]
    simp
theorem collect_inc {xs : List Sib} (h : Inc xs) : collect xs = xs := by
  have := collect_from xs [] (by simpa using h)
  simpa [collect] using this
theorem ins_length (s : List Sib) (x : Sib) : (ins s x).length = s.length + 1 := by
  have := pos_le s x.1
  unfold ins
  rw [List.length_append, List.length_take, List.length_cons, List.length_drop]; omega
theorem ins_mem {s : List Sib} {x y : Sib} : y ∈ ins s x ↔ y = x ∨ y ∈ s := by
  unfold ins
  rw [List.mem_append, List.mem_cons]
  constructor
  · rintro (h | h | h)
    · exact .inr (List.mem_of_mem_take h)
    · exact .inl h
    · exact .inr (List.mem_of_mem_drop h)
  · rintro (h | h)
    · exact .inr (.inl h)
    · rw [← List.take_append_drop (pos s x.1) s] at h
      rcases List.mem_append.1 h with h | h
      · exact .inl h
      · exact .inr (.inr h)
theorem Inc.ins {s : List Sib} {x : Sib} (h : Inc s) (hn : ∀ y ∈ s, y.1 ≠ x.1) : Inc (ins s x) := by
  rw [inc_pairwise] at h ⊢
  have hp := inc_pairwise.2 h
  have hle := pos_le s x.1
  unfold Sb.ins
  rw [List.pairwise_append, List.pairwise_cons]
  refine ⟨h.sublist (List.take_sublist _ _), ⟨fun y hy => ?_, h.sublist (List.drop_sublist _ _)⟩, fun y hy z hz => ?_⟩
  · obtain ⟨i, hi, rfl⟩ := List.getElem_of_mem hy
    have hi' : pos s x.1 + i < s.length := by rw [List.length_drop] at hi; omega
    have hlt : pos s x.1 < s.length := by omega
    have := hp.up (pos_not s x.1 hlt) (Nat.le_add_right _ i) hi'
    rw [getD_eq s _ hi'] at this
    rw [List.getElem_drop]
    show lessB x.1 _ = true
    cases e : lessB x.1 (s[pos s x.1 + i]'hi').1
    · exact absurd (less_total this e) (hn _ (List.getElem_mem hi'))
    · rfl
  · obtain ⟨i, hi, rfl⟩ := List.getElem_of_mem hy
    have hi' : i < pos s x.1 := by rw [List.length_take] at hi; omega
    have h1 := pos_less s x.1 i hi'
    rw [getD_eq s i (by omega)] at h1
    rw [List.getElem_take]
    rcases List.mem_cons.1 hz with rfl | hz
    · exact h1
    · obtain ⟨j, hj, rfl⟩ := List.getElem_of_mem hz
      have hj' : pos s x.1 + j < s.length := by rw [List.length_drop] at hj; omega
      rw [List.getElem_drop]
      have := (List.pairwise_iff_getElem.1 h) i (pos s x.1 + j) (by omega) hj' (by omega)
      exact this
theorem mono_pairwise {s : List Sib} : Mono s ↔ s.Pairwise fun x y => lessB y.1 x.1 = false := by
  rw [List.pairwise_iff_getElem]
  constructor
  · intro h i j hi hj hij
    have := h.le' (Nat.le_of_lt hij) hj
    rwa [getD_eq s i hi, getD_eq s j hj] at this
  · intro h k hk
    have := h k (k + 1) (by omega) hk (by omega)
    rw [getD_eq s k (by omega), getD_eq s (k + 1) hk]
    exact this
theorem Mono.ins {s : List Sib} (x : Sib) (h : Mono s) : Mono (Sb.ins s x) := by
  have hp := h
  rw [mono_pairwise] at h ⊢
  have hle := pos_le s x.1
  unfold Sb.ins
  rw [List.pairwise_append, List.pairwise_cons]
  refine ⟨h.sublist (List.take_sublist _ _), ⟨fun y hy => ?_, h.sublist (List.drop_sublist _ _)⟩, fun y hy z hz => ?_⟩
  · obtain ⟨i, hi, rfl⟩ := List.getElem_of_mem hy
    have hi' : pos s x.1 + i < s.length := by rw [List.length_drop] at hi; omega
    have := hp.up (pos_not s x.1 (by omega)) (Nat.le_add_right _ i) hi'
    rw [getD_eq s _ hi'] at this
    rw [List.getElem_drop]
    exact this
  · obtain ⟨i, hi, rfl⟩ := List.getElem_of_mem hy
    have hi' : i < pos s x.1 := by rw [List.length_take] at hi; omega
    have h1 := pos_less s x.1 i hi'
    rw [getD_eq s i (by omega)] at h1
    rw [List.getElem_take]
    rcases List.mem_cons.1 hz with rfl | hz
    · exact less_asymm h1
    · obtain ⟨j, hj, rfl⟩ := List.getElem_of_mem hz
      have hj' : pos s x.1 + j < s.length := by rw [List.length_drop] at hj; omega
      rw [List.getElem_drop]
      exact (List.pairwise_iff_getElem.1 h) i (pos s x.1 + j) (by omega) hj' (by omega)
theorem collect_snoc (xs : List Sib) (x : Sib) : collect (xs ++ [x]) = Sb.ins (collect xs) x := by unfold collect; rw [List.foldl_append]; rfl
theorem collect_length (xs : List Sib) : (collect xs).length = xs.length := by
  have : ∀ (xs pre : List Sib), (xs.foldl Sb.ins pre).length = pre.length + xs.length := by
    intro xs
    induction xs with
    | nil => intro pre; simp
    | cons x xs ih => intro pre; rw [List.foldl_cons, ih, ins_length, List.length_cons]; omega
  simpa [collect] using this xs []
open Go.RowKit Go.Shelf Go.Proofs.YtiaoifodaoifjaaGreat.Mk Go.Proofs.YtiaoifodaoifjaaGreat.Rw
attribute [local go_sem] Oper.semAt_some
def uns (s : List Sib) (l : List (Int × Int)) : List Sib := s.filter fun x => !hasB l x.1
theorem uns_take (s : List Sib) (l : List (Int × Int)) (k : Nat) (h : k < s.length) : uns (s.take (k + 1)) l = uns (s.take k) l ++ (if hasB l s[k].1 = true then [] else [s[k]]) := by
  unfold uns
  rw [List.take_succ_eq_append_getElem h, List.filter_append]
  cases e : hasB l s[k].1 <;> simp [e]
end Go.Proofs.YtiaoifodaoifjaaGreat.Sb
namespace Go.Proofs.YtiaoifodaoifjaaGreat.Mk
open Go.RowKit
theorem spec_max (x y : Int) (w : World) : Calls Tryz.prog 114 #[.int .i64 x, .int .i64 y] w fun e w' => e = .returned (.int .i64 (imax x y)) ∧ w = w' := by
  by_cases h : y < x
  all_goals
    go_enter Tryz.func114, Tryz.ntmps114
    go_wp2
    all_goals go_ret
    all_goals exact ⟨ret_i64 (by unfold imax; split <;> omega), rfl⟩
set_option maxRecDepth 100000 in
set_option maxHeartbeats 1000000 in
theorem spec_join (a b : Option Addr) (cap cap' : Nat) (l l' : List (Int × Int)) (w : World) (hl : l.length ≤ maxLen) (hl' : l'.length ≤ maxLen) (h : MarksAt w a l) (h' : MarksAt w b l') :
    Calls Tryz.prog 106 #[.slice a l.length cap, .slice b l'.length cap'] w (Gives w (joinTo l l' 5)) := by
  have H := jj h
  have H' := jj h'
  clear h h'
  go_enter Tryz.func106, Tryz.ntmps106
  go_wp2
  go_loopw [5, 6] (fun v i wr => ∃ (k : Nat), k ≤ 5 ∧ i = .int .i64 ((k : Int) + 1) ∧ wr.ownsRow w.heap.size 63 2 v (joinTo l l' k).length (flat (joinTo l l' k)) ∧ Below w.heap.size w wr) (fun _ i _ => 6 - (intOf i).toNat)
  case atStart => exact ⟨0, by omega, rfl, World.ownsRow_made w #[] 0 (Nat.le_refl _) (by unfold maxLen; omega) rfl, (Below.refl _ _).alloc (Nat.le_refl _) _⟩
  case round =>
    obtain ⟨k, hk, rfl, ho, hbel⟩ := hrel
    have HO := jj ho
    have HB := jj hbel
    clear ho hbel
    by_cases hlt5 : k < 5
    · have HS := jj (joinTo_succ l l' k)
      have HP : Hid (jpick l l' ((k : Int) + 1) = if 0 < imax (ofL l ((k : Int) + 1)) (ofL l' ((k : Int) + 1)) then some ((k : Int) + 1, imax (ofL l ((k : Int) + 1)) (ofL l' ((k : Int) + 1))) else none) := jj rfl
      have HL : Hid ((joinTo l l' k).length ≤ 5) := jj (Nat.le_trans (List.length_filterMap_le _ _) (by simp; omega))
      go_wp2_with fail
      refine (spec_of a cap l ((k : Int) + 1) _ hl (H.out.mono HB.out)).mono ?_
      rintro e w' ⟨rfl, rfl⟩
      go_wp2_with fail
      refine (spec_of b cap' l' ((k : Int) + 1) _ hl' (H'.out.mono HB.out)).mono ?_
      rintro e w' ⟨rfl, rfl⟩
      go_wp2_with fail
      refine (spec_max _ _ _).mono ?_
      rintro e w' ⟨rfl, rfl⟩
      generalize imax (ofL l ((k : Int) + 1)) (ofL l' ((k : Int) + 1)) = y at HP ⊢
      by_cases hy : 0 < y
      · have HE := jj (HP.out.trans (if_pos hy))
        go_wp2_with (at_builtin; refine wpList_append_mark _ rfl _ _ rfl w.heap.size _ (joinTo l l' k) ((k : Int) + 1, y) (by rfl) wr.heap.size (by rfl) (by rfl) HO.out (by have := HL.out; omega) HB.out.size ?_; intro v' w1 ho1 hb1)
        have HO1 := jj ho1
        have HB1 := jj (HB.out.trans hb1)
        clear ho1 hb1
        go_wp2
        go_roundw
        case rel => exact ⟨k + 1, by omega, by go_num, by rw [HS.out, HE.out]; exact HO1.out, HB1.out⟩
        case measure => go_light; simp [intOf]; omega
      · have HE := jj (HP.out.trans (if_neg hy))
        go_wp2
        go_roundw
        case rel => exact ⟨k + 1, by omega, by go_num, by rw [HS.out, HE.out]; simpa using HO.out, HB.out⟩
        case measure => go_light; simp [intOf]; omega
    · have hk5 : k = 5 := by omega
      subst hk5
      go_wp2
      go_ret
      obtain ⟨a, cap, rfl, ho⟩ := own_row HO.out
      exact ⟨a, cap, rfl, ho, HB.out⟩
open Go.RowKit
def GivesRow (w : World) (l : List (Int × Int)) (e : Ending) (w' : World) : Prop :=
  ∃ v, e = .returned v ∧ w'.ownsRow w.heap.size 63 2 v l.length (flat l) ∧ Below w.heap.size w w'
def GivesOutRow (w : World) (l : List (Int × Int)) (code : Int) (e : Ending) (w' : World) : Prop :=
  ∃ v, e = .returned (.agg #[v, .int .i64 code]) ∧ w'.ownsRow w.heap.size 63 2 v l.length (flat l) ∧ Below w.heap.size w w'
theorem own_none (w : World) (B : Nat) : w.ownsRow B 63 2 (.slice none 0 0) ([] : List (Int × Int)).length (flat []) := ⟨rfl, .inl ⟨rfl, rfl⟩⟩
theorem own_base {w : World} {B B' e size n : Nat} {v : Value} {xs : List Value} (h : w.ownsRow B e size v n xs) (hB : B' ≤ B) : w.ownsRow B' e size v n xs := by
  obtain ⟨h1, h2⟩ := h
  refine ⟨h1, ?_⟩
  rcases h2 with h2 | ⟨g, cap, cur, hv, hg, r⟩
  · exact .inl h2
  · exact .inr ⟨g, cap, cur, hv, by omega, r⟩
set_option maxRecDepth 100000 in
set_option maxHeartbeats 1000000 in
theorem spec_join_row (a b : Option Addr) (cap cap' : Nat) (l l' : List (Int × Int)) (w : World) (hl : l.length ≤ maxLen) (hl' : l'.length ≤ maxLen) (h : MarksAt w a l) (h' : MarksAt w b l') :
    Calls Tryz.prog 106 #[.slice a l.length cap, .slice b l'.length cap'] w (GivesRow w (joinTo l l' 5)) := by
  have H := jj h
  have H' := jj h'
  clear h h'
  go_enter Tryz.func106, Tryz.ntmps106
  go_wp2
  go_loopw [5, 6] (fun v i wr => ∃ (k : Nat), k ≤ 5 ∧ i = .int .i64 ((k : Int) + 1) ∧ wr.ownsRow w.heap.size 63 2 v (joinTo l l' k).length (flat (joinTo l l' k)) ∧ Below w.heap.size w wr) (fun _ i _ => 6 - (intOf i).toNat)
  case atStart => exact ⟨0, by omega, rfl, World.ownsRow_made w #[] 0 (Nat.le_refl _) (by unfold maxLen; omega) rfl, (Below.refl _ _).alloc (Nat.le_refl _) _⟩
  case round =>
    obtain ⟨k, hk, rfl, ho, hbel⟩ := hrel
    have HO := jj ho
    have HB := jj hbel
    clear ho hbel
    by_cases hlt5 : k < 5
    · have HS := jj (joinTo_succ l l' k)
      have HP : Hid (jpick l l' ((k : Int) + 1) = if 0 < imax (ofL l ((k : Int) + 1)) (ofL l' ((k : Int) + 1)) then some ((k : Int) + 1, imax (ofL l ((k : Int) + 1)) (ofL l' ((k : Int) + 1))) else none) := jj rfl
      have HL : Hid ((joinTo l l' k).length ≤ 5) := jj (Nat.le_trans (List.length_filterMap_le _ _) (by simp; omega))
      go_wp2_with fail
      refine (spec_of a cap l ((k : Int) + 1) _ hl (H.out.mono HB.out)).mono ?_
      rintro e w' ⟨rfl, rfl⟩
      go_wp2_with fail
      refine (spec_of b cap' l' ((k : Int) + 1) _ hl' (H'.out.mono HB.out)).mono ?_
      rintro e w' ⟨rfl, rfl⟩
      go_wp2_with fail
      refine (spec_max _ _ _).mono ?_
      rintro e w' ⟨rfl, rfl⟩
      generalize imax (ofL l ((k : Int) + 1)) (ofL l' ((k : Int) + 1)) = y at HP ⊢
      by_cases hy : 0 < y
      · have HE := jj (HP.out.trans (if_pos hy))
        go_wp2_with (at_builtin; refine wpList_append_mark _ rfl _ _ rfl w.heap.size _ (joinTo l l' k) ((k : Int) + 1, y) (by rfl) wr.heap.size (by rfl) (by rfl) HO.out (by have := HL.out; omega) HB.out.size ?_; intro v' w1 ho1 hb1)
        have HO1 := jj ho1
        have HB1 := jj (HB.out.trans hb1)
        clear ho1 hb1
        go_wp2
        go_roundw
        case rel => exact ⟨k + 1, by omega, by go_num, by rw [HS.out, HE.out]; exact HO1.out, HB1.out⟩
        case measure => go_light; simp [intOf]; omega
      · have HE := jj (HP.out.trans (if_neg hy))
        go_wp2
        go_roundw
        case rel => exact ⟨k + 1, by omega, by go_num, by rw [HS.out, HE.out]; simpa using HO.out, HB.out⟩
        case measure => go_light; simp [intOf]; omega
    · have hk5 : k = 5 := by omega
      subst hk5
      go_wp2
      go_ret
      exact ⟨_, rfl, HO.out, HB.out⟩
set_option maxRecDepth 100000 in
set_option maxHeartbeats 1000000 in
theorem spec_seenPut_row (a : Option Addr) (cap : Nat) (l : List (Int × Int)) (m : Int × Int) (w : World) (hl : l.length ≤ maxLen) (h : MarksAt w a l) :
    Calls Tryz.prog 95 #[.slice a l.length cap, mv m] w (GivesOutRow w (putL l m) (putC l m)) := by
  have H := jj h
  clear h
  by_cases hs : l.length ≤ 400
  · have hs' : (l.length : Int) ≤ 400 := by omega
    cases hr : rightB l
    · have HL := jj (putL_no (m := m) (Or.inl hr))
      have HC := jj (putC_form (m := m) hs (Or.inl hr))
      obtain ⟨x, y⟩ := m
      unfold mv
      rw [HL.out, HC.out]
      go_enter Tryz.func95, Tryz.ntmps95
      go_wp2_with fail
      refine (spec_seenRight a cap l _ hl (H.out.mono (((Below.refl _ w).alloc (Nat.le_refl _) _).alloc (by simp) _))).mono ?_
      rintro e w1 ⟨rfl, hb⟩
      have X1 := jj ((Boxed.new w x y _ _).below hb)
      obtain ⟨b0, b1, r0, r1, f0, f1, lt1⟩ := X1.out
      have HB := jj ((((Below.refl _ w).alloc (Nat.le_refl _) _).alloc (by simp) _).trans (hb.mono (by simp; omega)))
      clear hb
      go_wp2
      refine bodyPost_ret (v := .agg #[.slice none 0 0, .int .i64 1]) (by simp [results, Tryz.results95, go_sem, r0, r1, f0, f1]) rfl ?_
      exact ⟨_, rfl, own_none _ _, (HB.out.setCell (by simp) _).setCell (by simp) _⟩
    cases hd : dotB m
    · have HL := jj (putL_no (l := l) (Or.inr hd))
      have HC := jj (putC_form (l := l) hs (Or.inr hd))
      obtain ⟨x, y⟩ := m
      unfold mv
      rw [HL.out, HC.out]
      go_enter Tryz.func95, Tryz.ntmps95
      go_wp2_with fail
      refine (spec_seenRight a cap l _ hl (H.out.mono (((Below.refl _ w).alloc (Nat.le_refl _) _).alloc (by simp) _))).mono ?_
      rintro e w1 ⟨rfl, hb⟩
      have X1 := jj ((Boxed.new w x y _ _).below hb)
      obtain ⟨b0, b1, r0, r1, f0, f1, lt1⟩ := X1.out
      have HB := jj ((((Below.refl _ w).alloc (Nat.le_refl _) _).alloc (by simp) _).trans (hb.mono (by simp; omega)))
      clear hb
      go_wp2_with fail
      refine (spec_dot (x, y) _).mono ?_
      rintro e w2 ⟨rfl, hb2⟩
      have X2 := jj (X1.out.below hb2)
      clear b0 b1 r0 r1 f0 f1 lt1
      obtain ⟨b0, b1, r0, r1, f0, f1, lt1⟩ := X2.out
      have HB2 := jj (HB.out.trans (hb2.mono HB.out.size))
      clear hb2
      go_wp2
      refine bodyPost_ret (v := .agg #[.slice none 0 0, .int .i64 1]) (by simp [results, Tryz.results95, go_sem, r0, r1, f0, f1]) rfl ?_
      exact ⟨_, rfl, own_none _ _, (HB2.out.setCell (by simp) _).setCell (by simp) _⟩
    · have HL := jj (putL_yes hs hr hd)
      have HC := jj (putC_ok hs hr hd)
      obtain ⟨x, y⟩ := m
      unfold mv
      rw [HL.out, HC.out]
      go_enter Tryz.func95, Tryz.ntmps95
      go_wp2_with fail
      refine (spec_seenRight a cap l _ hl (H.out.mono (((Below.refl _ w).alloc (Nat.le_refl _) _).alloc (by simp) _))).mono ?_
      rintro e w1 ⟨rfl, hb⟩
      have X1 := jj ((Boxed.new w x y _ _).below hb)
      obtain ⟨b0, b1, r0, r1, f0, f1, lt1⟩ := X1.out
      have HB := jj ((((Below.refl _ w).alloc (Nat.le_refl _) _).alloc (by simp) _).trans (hb.mono (by simp; omega)))
      clear hb
      go_wp2_with fail
      refine (spec_dot (x, y) _).mono ?_
      rintro e w2 ⟨rfl, hb2⟩
      have X2 := jj (X1.out.below hb2)
      clear b0 b1 r0 r1 f0 f1 lt1
      obtain ⟨b0, b1, r0, r1, f0, f1, lt1⟩ := X2.out
      have HB2 := jj (HB.out.trans (hb2.mono HB.out.size))
      clear hb2
      go_wp2_with fail
      refine (spec_join_row a (some ⟨w2.heap.size, 0, none⟩) cap 1 l [(x, y)] _ hl (by unfold maxLen; simp) (H.out.mono (HB2.out.alloc HB2.out.size _)) (marks_one w2 x y)).mono ?_
      rintro e w3 ⟨v3, rfl, ho3, hb3⟩
      obtain ⟨a3, c3, rfl, _⟩ := own_row ho3
      have X3 := jj ((X2.out.below ((Below.refl _ _).alloc (Nat.le_refl _) _)).below hb3)
      clear b0 b1 r0 r1 f0 f1 lt1
      obtain ⟨b0, b1, r0, r1, f0, f1, lt1⟩ := X3.out
      have HB3 := jj ((HB2.out.alloc HB2.out.size (.cells #[.int .i64 x, .int .i64 y] 63)).trans (hb3.mono (by have := HB2.out.size; simp; omega)))
      have HO3 := jj (own_base (B' := w2.heap.size) ho3 (by simp))
      have q2 := X2.out.lt
      clear hb3 ho3
      go_wp2
      refine bodyPost_ret (v := .agg #[.slice a3 _ c3, .int .i64 0]) (by simp [results, Tryz.results95, go_sem, r0, r1, f0, f1]; rfl) rfl ?_
      refine ⟨_, rfl, own_base (own_same HO3.out fun q hq => ?_) (by omega), (HB3.out.setCell (by simp) _).setCell (by simp) _⟩
      have hq2 := (HO3.out.lt q hq).1
      rw [Below.heap_setCell _ _ _ _ (by simp only; omega), Below.heap_setCell _ _ _ _ (by simp only; omega)]
  · have hs' : (400 : Int) < (l.length : Int) := by omega
    have HL := jj (putL_great (m := m) hs)
    have HC := jj (putC_great (m := m) hs)
    obtain ⟨x, y⟩ := m
    unfold mv
    unfold maxLen at hl
    rw [HL.out, HC.out]
    go_enter Tryz.func95, Tryz.ntmps95
    go_wp2
    refine bodyPost_ret (v := .agg #[.slice none 0 0, .int .i64 2]) (by simp [results, Tryz.results95, go_sem]) rfl ?_
    exact ⟨_, rfl, own_none _ _, ((Below.refl _ w).alloc (Nat.le_refl _) _).alloc (by simp) _⟩
end Go.Proofs.YtiaoifodaoifjaaGreat.Mk
namespace Go.Proofs.YtiaoifodaoifjaaGreat.Se
open Go.RowKit Nu Cr Dr
set_option maxHeartbeats 1000000 in
theorem lwAt (w : World) (B : Nat) (a : Option Addr) (len cap at_ most : Nat) (hl : len ≤ 1048576) (hm : most ≤ 1000000) (hat : at_ ≤ 1) (h : Bytes8 w B a len) :
    ∃ r : Nat, (r < most ∨ r = 0) ∧ ∀ W, Below B w W → Calls Tryz.prog 13 #[.slice a len cap, .int .i64 (at_ : Int), .int .i64 (most : Int)] W fun e w' => e = .returned (.int .i64 (r : Int)) ∧ W = w' := by
  by_cases h1 : most ≤ 1
  · refine ⟨0, .inr rfl, fun W hW => ?_⟩
    clear hW
    go_enter Tryz.func13, Tryz.ntmps13
    go_wp2
    go_ret
    exact ⟨rfl, rfl⟩
  have d1 : decide ((most : Int) ≤ 1) = false := by simp; omega
  by_cases h0 : len = 0
  · subst h0
    refine ⟨0, .inr rfl, fun W hW => ?_⟩
    clear hW
    go_enter Tryz.func13, Tryz.ntmps13
    go_wp2
    go_ret
    exact ⟨rfl, rfl⟩
  have d2 : ((len : Int) == 0) = false := by simp; omega
  rcases h with h | ⟨b, off, rfl, hb, hrow⟩
  · omega
  have hi : at_ % len < len := Nat.mod_lt _ (by omega)
  obtain ⟨z, hz, iz⟩ := hrow (at_ % len) hi
  have q1 : (at_ : Int).tmod (len : Int) = ((at_ % len : Nat) : Int) := by rw [Int.tmod_eq_emod_of_nonneg (by omega)]; omega
  have q2 : (at_ : Int) % (len : Int) = ((at_ % len : Nat) : Int) := by omega
  have q3 : (z : Int).tmod (most : Int) = ((z % most : Nat) : Int) := by rw [Int.tmod_eq_emod_of_nonneg (by omega)]; omega
  have q4 : (z : Int) % (most : Int) = ((z % most : Nat) : Int) := by omega
  generalize at_ % len = i at q1 q2 iz hi
  have hr : z % most < most := Nat.mod_lt _ (by omega)
  generalize z % most = r at q3 q4 hr
  refine ⟨r, .inl hr, fun W hW => ?_⟩
  have t1 : (i : Int) < (len : Int) := by omega
  replace iz := (hW.cell (p := ⟨b, off + i, none⟩) hb).trans iz
  clear hrow hW
  go_enter Tryz.func13, Tryz.ntmps13
  go_wp2
  go_ret
  exact ⟨rfl, rfl⟩
open Go.RowKit Nu Cr Dr
structure Seg8 (w : World) (g : Nat) (l : List UInt8) : Prop where
  cell : ∀ j (h : j < l.length), w.cell? ⟨g, j, none⟩ = some (bv l[j])
  free : ∀ j, j < l.length → w.frozen? ⟨g, j, none⟩ = false
theorem Seg8.string {w : World} {g : Nat} {l : List UInt8} (h : Seg8 w g l) (c : Nat) :
    (convert 22 9 (.slice (some ⟨g, 0, none⟩) l.length c)).run Tryz.prog w = .ok (.string ⟨l.toArray⟩) w := by
  refine run_convert_bytes_back (P := Tryz.prog) w 22 9 5 ⟨g, 0, none⟩ c l Tryz.underlying22 Tryz.underlying5 Tryz.underlying9 (fun j hj => ?_)
  have e : (⟨g, 0, none⟩ : Addr).add j = ⟨g, j, none⟩ := by unfold Addr.add; split <;> simp_all
  rw [e]; exact h.cell j hj
theorem Seg8.set {w : World} {g : Nat} {l : List UInt8} (h : Seg8 w g l) (k : Nat) (hk : k < l.length) (b : UInt8) : Seg8 (w.setCell ⟨g, k, none⟩ (bv b)) g (l.set k b) := by
  constructor
  · intro j hj
    have hj' : j < l.length := by simpa using hj
    by_cases e : j = k
    · subst e
      rw [World.cell?_setCell_same _ _ _ (h.cell j hj'), List.getElem_set_self]
    · rw [World.cell?_setCell_other _ _ _ _ (by intro hh; injection hh with _ h2; exact e h2.symm), h.cell j hj', List.getElem_set_ne (fun hh => e hh.symm)]
  · intro j hj
    rw [World.frozen?_setCell]; exact h.free j (by simpa using hj)
theorem Seg8.below {w w' : World} {g : Nat} {l : List UInt8} (h : Seg8 w g l) (hb : Below w.heap.size w w') (hg : g < w.heap.size) : Seg8 w' g l :=
  ⟨fun j hj => (hb.cell (p := ⟨g, j, none⟩) hg).trans (h.cell j hj), fun j hj => (hb.frozen (p := ⟨g, j, none⟩) hg).trans (h.free j hj)⟩
theorem bytes_of (w : World) (s : ByteArray) : ∃ (c : Nat) (w' : World), (convert 9 22 (.string s)).run Tryz.prog w = .ok (.slice (some ⟨w.heap.size, 0, none⟩) s.size c) w' ∧ Seg8 w' w.heap.size s.data.toList ∧ Below w.heap.size w w' ∧ w.heap.size < w'.heap.size := by
  refine ⟨_, _, run_bytes_of_string w 9 22 5 s Tryz.underlying9 Tryz.underlying22 Tryz.underlying5, ⟨fun j hj => ?_, fun j hj => ?_⟩, (Below.refl _ _).drew.alloc (Nat.le_refl _) _, by simp⟩
  · have := World.cell?_alloc_mark w.drew (bytesRow s (grownCap w s.size 0 5)) 5 ((bytesRow s (grownCap w s.size 0 5)).size, (bytesRow s (grownCap w s.size 0 5)).size + 1) j
    exact this.trans (bytesRow_at s _ j (by simpa using hj))
  · have := World.frozen?_alloc_mark w.drew (bytesRow s (grownCap w s.size 0 5)) 5 (bytesRow s (grownCap w s.size 0 5)).size ((bytesRow s (grownCap w s.size 0 5)).size + 1) j
    refine this.trans ?_
    have hle : s.data.toList.length ≤ (bytesRow s (grownCap w s.size 0 5)).size := by unfold bytesRow; simp
    simp; omega
end Go.Proofs.YtiaoifodaoifjaaGreat.Se
namespace Go.Proofs.YtiaoifodaoifjaaGreat.Dr
open Go.RowKit Go.WideShapes Go.ChangeShapes
set_option maxRecDepth 100000 in
theorem open_came {H : Type} {enc : TypeId × Value → H} {W : World} {r : Reach} {b0 : Nat} {v : Value} {d : DataW H} {p : List MemPlace}
    (hv : Value.okWide Tryz.prog W r b0 22 v) (h : DataW.Trod enc Tryz.prog W 0 (fun _ => true) true 22 v d p) :
    ∃ a len cap z, v = .slice a len cap ∧ Came W a len cap z := by
  obtain ⟨a, len, cap, rfl⟩ := okWide_slice Tryz.underlying22 hv
  obtain ⟨fuel, hf⟩ := h
  rcases open_ints Tryz.underlying22 Tryz.underlying5 (by kernel_rfl) hf with ⟨hcs, _⟩ | ⟨x, l, c, zs, hcs, _, hl, hm, hz, _, hcell, hwz⟩
  · simp [Value.cells] at hcs
    obtain ⟨rfl, rfl, rfl⟩ := hcs
    exact ⟨_, _, _, [], rfl, .inl ⟨rfl, rfl, rfl, rfl⟩⟩
  · simp [Value.cells] at hcs
    obtain ⟨rfl, rfl, rfl⟩ := hcs
    exact ⟨_, _, _, zs, rfl, .inr ⟨_, rfl, hl, hm, by simpa using hz, hcell, hwz⟩⟩
end Go.Proofs.YtiaoifodaoifjaaGreat.Dr
