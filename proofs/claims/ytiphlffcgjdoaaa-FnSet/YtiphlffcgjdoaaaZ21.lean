/- Parts of a law: SeenBytes, StrRow, TextsLw, Labels, GetRead, TextRead. Conditions: on sizes, as each says. -/
import Derived.Test.YtiphlffcgjdoaaaZ1
import Derived.WalkArith
import Derived.Deep.RegionHeld3
import Derived.Test.YtiphlffcgjdoaaaZ6
import Derived.Test.YtiphlffcgjdoaaaZ3
import Derived.Test.YtiphlffcgjdoaaaZ15
import Derived.Test.YtiphlffcgjdoaaaZ18
import Derived.Test.YtiphlffcgjdoaaaZ2
import Derived.Test.YtiphlffcgjdoaaaZ4
import Derived.Test.YtiphlffcgjdoaaaZ8
import Derived.ScopeJumps
import Derived.Test.YtiphlffcgjdoaaaRows
import Derived.WalkKit
import Derived.Lib.Hide
import Derived.Deep.Light
import Derived.RowKitTokens
import Derived.ProofKit
import Derived.OpenShut
import Derived.ShutString
import Derived.Laws.BitsAllLaws
import Derived.Laws.Bits64
import Derived.WalkSpells
import Derived.WalkMore
import Derived.Laws.DeepNot64
import Derived.IntWalk
import Derived.Deep.RegionWith
import Derived.RegionTactic
import Derived.StillTailTactics
set_option linter.unusedSimpArgs false
set_option linter.unusedVariables false
namespace Go.Proofs.Ytiphlffcgjdoaaa.Mk
open Go.RowKit

theorem impl_ret_str {a b : ByteArray} (h : a = b) : Ending.returned (.string a) = .returned (.string b) := by rw [h]
theorem impl_wf_dot {m : Int × Int} (h : dotB m = true) : (Lit.int .i64 m.1).wf = true ∧ (Lit.int .i64 m.2).wf = true := by
  have := (dotB_iff m).1 h
  exact ⟨WalkArith.wf_i64 (by omega), WalkArith.wf_i64 (by omega)⟩
set_option maxRecDepth 100000 in
set_option maxHeartbeats 1000000 in
theorem markBytes (m : Int × Int) (w : World) (hd : dotB m = true) :
    Calls Try.prog 80 #[mv m] w fun e w' => e = .returned (.string (markS m)) ∧ Below w.heap.size w w' := by
  have hm := (dotB_iff m).1 hd
  have hw := impl_wf_dot hd
  have HE : Hid (markS m = Nu.numS m.1 ++ Nu.numS m.2) := Lib.hid rfl
  rw [HE.out]
  clear HE hd
  obtain ⟨x, y⟩ := m
  unfold mv
  simp only at hm hw ⊢
  have Wx := Lib.hid hw.1
  have Wy := Lib.hid hw.2
  have sx := Nu.numS_size_of x (by omega)
  have sy := Nu.numS_size_of y (by omega)
  clear hw
  have V := Lib.hid ((Var2.new w (.int .i64 x) (.int .i64 y) 30).below (step_drew _))
  have D := Lib.hid ((show Base w _ from step_alloc w (.cells #[.int .i64 x, .int .i64 y] 30)).below (step_drew _))
  go_enter Try.func80, Try.ntmps80
  go_wp2_with fail
  refine wp_region_held_drew (S := (fun w' => w'.cell? ⟨w.heap.size, 0, none⟩ = some (.int .i64 x) ∧ w'.cell? ⟨w.heap.size, 1, none⟩ = some (.int .i64 y))) (by kernel_rfl) (by exact ⟨V.out.c0, V.out.c1⟩) (fun hHeld => ?_)
  refine tk 0 (v := ?_) ?_
  try simp only [Act.put, n1, n2, n3, n4, n5, n6]
  refine tk 1 (v := ?_) ?_
  try simp only [Act.put, n1, n2, n3, n4, n5, n6]
  refine tk 3 (v := ?_) ?_
  try simp only [Act.put, n1, n2, n3, n4, n5, n6]
  refine tk 4 (v := ?_) ?_
  try simp only [Act.put, n1, n2, n3, n4, n5, n6]
  refine wpAnyH_ready (rs := [2]) (by kernel_rfl) (by simp) ?_
  refine AllReadyH.cons rfl (fun K hK => ?_) AllReadyH.nil
  go_simp
  go_at_call 47
  refine (Nu.impl_PutNum x Wx.out _).mono ?_
  rintro e w1 ⟨rfl, hb⟩
  rw [Nu.numS_mk]
  replace V := Lib.hid (V.out.below hb)
  replace D := Lib.hid (D.out.below hb)
  clear hb
  go_wp2_with fail
  refine hK.out _ _ (by exact ⟨V.out.c0, V.out.c1⟩) (fun hHeld => ?_)
  clear hK K
  try simp only [Act.put, n1, n2, n3, n4, n5, n6]
  refine wpAnyH_ready (rs := [5]) (by kernel_rfl) (by simp) ?_
  refine AllReadyH.cons rfl (fun K hK => ?_) AllReadyH.nil
  go_simp
  go_at_call 47
  refine (Nu.impl_PutNum y Wy.out _).mono ?_
  rintro e w2 ⟨rfl, hb⟩
  rw [Nu.numS_mk]
  replace V := Lib.hid (V.out.below hb)
  replace D := Lib.hid (D.out.below hb)
  clear hb
  go_wp2_with fail
  refine hK.out _ _ (by exact ⟨V.out.c0, V.out.c1⟩) (fun hHeld => ?_)
  clear hK K
  try simp only [Act.put, n1, n2, n3, n4, n5, n6]
  refine wpAnyH_ready (rs := [6]) (by kernel_rfl) (by simp) ?_
  refine AllReadyH.cons rfl (fun K hK => ?_) AllReadyH.nil
  go_simp
  have V2 := V
  have hb := step_alloc w2 (.cells #[.string (Nu.numS x), .string (Nu.numS y)] 9)
  replace V := Lib.hid (V.out.below hb)
  clear hb
  refine hK.out _ _ (by exact ⟨V.out.c0, V.out.c1⟩) (fun hHeld => ?_)
  clear hK K
  try simp only [Act.put, n1, n2, n3, n4, n5, n6]
  refine wpAnyH_ready (rs := [7]) (by kernel_rfl) (by simp) ?_
  refine AllReadyH.cons rfl (fun K hK => ?_) AllReadyH.nil
  go_simp
  go_at_call 49
  refine (Nu.joined_two (Nu.numS x) (Nu.numS y) w2 (by omega)).mono ?_
  rintro e w3 ⟨rfl, hb⟩
  have V0 := Lib.hid (V.out)
  replace V := Lib.hid (V2.out.below hb)
  replace D := Lib.hid (D.out.below hb)
  clear hb
  go_wp2_with fail
  refine hK.out _ _ (by exact ⟨V.out.c0, V.out.c1⟩) (fun hHeld => ?_)
  clear hK K
  try simp only [Act.put, n1, n2, n3, n4, n5, n6]
  refine tk 8 (v := ?_) ?_
  try simp only [Act.put, n1, n2, n3, n4, n5, n6]
  refine wpAnyH_done (by kernel_rfl) ?_ _
  go_wp2
  go_ret
  exact ⟨rfl, D.out⟩

theorem infoS : (Try.prog.info? 9).map (fun i => (i.zero, i.size, i.bytes)) = some (some (.string ⟨#[]⟩), 1, 16) := by kernel_rfl
theorem wpList_append_str (w0 : World) {ops : Array Oper} {rest : List Oper} {o : Oper} {a : Act} {Q : Exit → Act → World → Prop} (hg : o.guard = none) (s x : Operand)
    (hop : o.op = .call { callee := .builtin .append, args := #[s, x], argTypes := #[43, 43] }) (B : Nat) (v : Value) (l : List ByteArray) (m : ByteArray) (hs : a.eval s = v) (G : Nat) (hG : w0.heap.size = G)
    (hx : a.eval x = .slice (some ⟨G, 0, none⟩) 1 1) (hown : w0.ownsRow B 9 1 v l.length (l.map .string)) (hl : l.length ≤ 1000000) (hB : B ≤ w0.heap.size)
    (h : ∀ v' w', w'.ownsRow B 9 1 v' (l ++ [m]).length ((l ++ [m]).map .string) → Below B w0 w' → wpList Try.prog ops Q rest (a.put o.dst v') w') :
    wpList Try.prog ops Q (o :: rest) a (w0.alloc (.cells #[.string m] 9)) := by
  subst hG
  obtain ⟨i0, hi, hz0, hz1, hz2⟩ := info_parts infoS
  refine wpList_append_own _ hg s x 43 hop B 9 i0 _ 1 16 Try.underlying43 hi hz0 hz1 hz2 rfl (by decide) v l.length (l.map .string) hs (hown.alloc _) ⟨w0.heap.size, 0, none⟩ 1 1 [.string m] hx rfl
    (World.news_of_block (cs := #[.string m]) (heap_alloc_new w0 _)) (fun u hu => by simp at hu; subst hu; rfl) (by unfold maxLen; omega) (by omega) (by simp; omega) (fun v' w' h1 h2 _ => h v' w' ?_ ?_)
  · rw [List.map_append, List.length_append]; exact h1
  · exact ((Below.refl B w0).alloc hB _).grown h2 (by simp; omega) (fun k hk => (hown.lt k hk).1)
theorem own_strs {w : World} {B n : Nat} {v : Value} {l : List ByteArray} (h : w.ownsRow B 9 1 v n (l.map .string)) (h0 : 0 < n) :
    ∃ g cap, v = .slice (some ⟨g, 0, none⟩) l.length cap ∧ ∀ i (hi : i < l.length), w.cell? ⟨g, i, none⟩ = some (.string l[i]) := by
  obtain ⟨hlen, hc⟩ := h
  have hn : n = l.length := by simp at hlen; omega
  subst hn
  rcases hc with ⟨rfl, h1⟩ | ⟨g, cap, cur, rfl, hg, hh, hn, hm, hs, ht⟩
  · omega
  · refine ⟨g, cap, rfl, fun i hi => ?_⟩
    have e : cur[i]? = some (.string l[i]) := by
      have h1 : (cur.toList.take (l.length * 1))[i]? = some (.string l[i]) := by rw [ht]; simp [hi]
      rw [List.getElem?_take_of_lt (by omega)] at h1
      simpa using h1
    simp [World.cell?, hh, e]
/-- the parts that are joined -/
def partsOf (l : List (Int × Int)) (k : Nat) : List ByteArray := Nu.numS l.length :: (l.take k).map markS
theorem partsOf_next (l : List (Int × Int)) (k : Nat) (h : k < l.length) : partsOf l (k + 1) = partsOf l k ++ [markS l[k]] := by
  unfold partsOf; rw [List.take_succ_eq_append_getElem h, List.map_append]; rfl
theorem cat_parts (l : List (Int × Int)) (k : Nat) : Nu.cat (partsOf l k) = Nu.enc (Nu.fold l.length) ++ (l.take k).flatMap markB := by
  unfold partsOf Nu.cat
  rw [List.map_cons, List.flatten_cons, Nu.numS_data, List.map_map]
  rw [List.flatMap_def, show List.map ((fun x => x.data.toList) ∘ markS) (l.take k) = (l.take k).map markB from List.map_congr_left fun m _ => markS_data m]
theorem own_lit (w : World) (s : ByteArray) (B : Nat) (hB : B ≤ w.heap.size) : (w.alloc (.cells #[.string s] 9)).ownsRow B 9 1 (.slice (some ⟨w.heap.size, 0, none⟩) 1 1) [s].length ([s].map .string) :=
  ⟨rfl, .inr ⟨w.heap.size, 1, #[.string s], rfl, hB, heap_alloc_new w _, Nat.le_refl _, by unfold maxLen; omega, rfl, rfl⟩⟩

set_option maxRecDepth 100000 in
set_option maxHeartbeats 2000000 in
theorem impl_seenBytes (a : Option Addr) (cap : Nat) (l : List (Int × Int)) (w : World) (hl : l.length ≤ maxLen) (h : MarksAt w a l) :
    Calls Try.prog 46 #[.slice a l.length cap] w fun e w' => e = .returned (.string (bytesV l)) ∧ Below w.heap.size w w' := by
  have H := Lib.hid h
  clear h
  cases hr : rightB l
  · have HE := Lib.hid (bytesV_no hr)
    go_enter Try.func46, Try.ntmps46
    go_wp2_with (go_at_call 37; refine (seenRight _ _ l _ hl H.out).mono ?_; rintro e w' ⟨rfl, hb⟩)
    go_ret
    exact ⟨impl_ret_str HE.out.symm, hb⟩
  · have HR := Lib.hid hr
    have h5 := right_len hr
    have HE := Lib.hid (bytesV_yes hr)
    go_enter Try.func46, Try.ntmps46
    go_wp2_with fail
    refine (seenRight a cap l _ hl H.out).mono ?_
    rintro e w1 ⟨rfl, hb⟩
    have HB1 := Lib.hid hb
    clear hb
    go_wp2_with fail
    refine (Nu.impl_PutNum (l.length : Int) (WalkArith.wf_i64 (by omega)) _).mono ?_
    rintro e w2 ⟨rfl, hb2⟩
    rw [Nu.numS_mk]
    have HB2 := Lib.hid (HB1.out.trans (hb2.mono HB1.out.size))
    clear hb2
    go_wp2
    go_loopw [3, 15] (fun z i wr => ∃ (k : Nat), k ≤ l.length ∧ i = .int .i64 k ∧ wr.ownsRow w.heap.size 9 1 z (partsOf l k).length ((partsOf l k).map .string) ∧ Below w.heap.size w wr) (fun _ i _ => l.length - (intOf i).toNat)
    case atStart => exact ⟨0, Nat.zero_le _, rfl, own_lit w2 _ _ HB2.out.size, HB2.out.alloc HB2.out.size _⟩
    case round =>
      obtain ⟨k, hk, rfl, ho, hbel⟩ := hrel
      have HO := Lib.hid ho
      have HB := Lib.hid hbel
      clear ho hbel
      have HL : Hid ((partsOf l k).length ≤ 6) := Lib.hid (by unfold partsOf; simp; omega)
      by_cases hlt : k < l.length
      · obtain ⟨g, off, rfl, hg, c0, c1⟩ := (H.out.mono HB.out).cells hlt
        have hd := right_dot HR.out _ (List.getElem_mem hlt)
        have HS := Lib.hid (partsOf_next l k hlt)
        have HD := Lib.hid hd
        clear hd
        generalize l[k] = m at c0 c1 HS HD
        obtain ⟨x, y⟩ := m
        simp only at c0 c1
        go_wp2_with fail
        refine (markBytes (x, y) _ HD.out).mono ?_
        rintro e w3 ⟨rfl, hb3⟩
        have HO3 := Lib.hid (own_below (HO.out.alloc (.cells #[.int .i64 x, .int .i64 y] 30)) hb3)
        have HB3 := Lib.hid ((HB.out.alloc HB.out.size (.cells #[.int .i64 x, .int .i64 y] 30)).trans (hb3.mono (by have := HB.out.size; simp; omega)))
        clear hb3
        generalize markS (x, y) = p at HS ⊢
        go_wp2_with (at_builtin; refine wpList_append_str _ rfl _ _ rfl w.heap.size _ (partsOf l k) p (by rfl) w3.heap.size (by rfl) (by rfl) HO3.out (by have := HL.out; omega) HB3.out.size ?_; intro v' w4 ho4 hb4)
        have HO4 := Lib.hid ho4
        have HB4 := Lib.hid (HB3.out.trans hb4)
        clear ho4 hb4
        go_wp2
        go_roundw
        case rel => exact ⟨k + 1, by omega, by go_num, by rw [HS.out]; exact HO4.out, HB4.out⟩
        case measure => go_light; simp [intOf]; omega
      · obtain ⟨g, cp, rfl, hc⟩ := own_strs HO.out (by unfold partsOf; simp)
        have hcat : Nu.cat (partsOf l k) = seenB l := by rw [cat_parts, List.take_of_length_le (by omega)]; rfl
        have hle := flat_length_le l (right_dot HR.out)
        have hsz : (Nu.cat (partsOf l k)).length ≤ 1000000 := by
          have h2 := Nu.enc_len10 (Nu.fold l.length) (Nu.fold_lt _ (by omega))
          rw [hcat]; unfold seenB; rw [List.length_append]; omega
        have HC := Lib.hid hc
        have HT := Lib.hid hcat
        have HZ := Lib.hid hsz
        clear hc hcat hsz hle
        go_wp2_with fail
        refine (Nu.joined_any g (partsOf l k) cp _ (by have := HL.out; omega) HZ.out HC.out).mono ?_
        rintro e w5 ⟨rfl, hb5⟩
        rw [HT.out, ← HE.out]
        go_wp2
        go_ret
        exact ⟨rfl, HB.out.trans (hb5.mono HB.out.size)⟩
end Go.Proofs.Ytiphlffcgjdoaaa.Mk

namespace Go.Proofs.Ytiphlffcgjdoaaa.Sb
open Go.RowKit Go.Proofs.Ytiphlffcgjdoaaa.Mk Go.Proofs.Ytiphlffcgjdoaaa.Rw

def tenc (s : ByteArray) : Nat → Value := fun _ => .string s
theorem flat1 (l : List ByteArray) : flatE 1 tenc l = l.map .string := by
  induction l with
  | nil => rfl
  | cons x r ih =>
    show tenc x 0 :: flatE 1 tenc r = _
    rw [ih]; rfl
theorem tcell {w : World} {a : Option Addr} {l : List ByteArray} (h : RowAt 1 tenc w a l) {i : Nat} (hi : i < l.length) : ∃ g off, a = some ⟨g, off, none⟩ ∧ g < w.heap.size ∧ w.cell? ⟨g, off + i, none⟩ = some (.string l[i]) := by
  obtain ⟨g, off, ha, hg, hc⟩ := RowAt.cells (by decide) h hi
  have := hc 0 (by decide)
  rw [Nat.mul_one, Nat.add_zero] at this
  exact ⟨g, off, ha, hg, this⟩
theorem town {w : World} {g : Nat} {l : List ByteArray} (h : ROwn 1 tenc w g l) {i : Nat} (hi : i < l.length) : w.cell? ⟨g, i, none⟩ = some (.string l[i]) := by
  have := h.cell i hi 0 (by decide)
  rwa [Nat.mul_one, Nat.add_zero] at this
theorem town_set {w : World} {g : Nat} {l : List ByteArray} (h : ROwn 1 tenc w g l) (i : Nat) (hi : i < l.length) (x : ByteArray) : ROwn 1 tenc (w.setCell ⟨g, i, none⟩ (.string x)) g (l.set i x) :=
  h.put i x (fun j hj => by
      obtain rfl : j = 0 := by omega
      rw [Nat.mul_one, Nat.add_zero]
      exact World.cell?_setCell_same _ _ _ (town h hi))
    (fun o ho => World.cell?_setCell_other _ _ _ _ (ne_off (by omega))) (fun j => World.frozen?_setCell _ _ _ _)
def strL (k n : Nat) : List ByteArray := (List.range n).map fun i => markT (k + i)
theorem strL_length (k n : Nat) : (strL k n).length = n := by simp [strL]
theorem strL_get (k n i : Nat) (h : i < (strL k n).length) : (strL k n)[i] = markT (k + i) := by simp [strL]
def MarkedT (w : World) (lo hi : Nat) (a : Option Addr) (k n : Nat) (e : Ending) (w' : World) : Prop :=
  e = .returned (.int .i64 ((k + n : Nat) : Int)) ∧ ROwnIn 1 tenc w' lo hi a (strL k n) ∧ Within lo hi w w'
/-- the data of the Sibs that are not gone -/
def vals (s : List Sib) : List ByteArray := (s.filter fun x => !x.2.1).map fun x => x.2.2
def setVals (l : List (Int × Int)) (s : List Sib) : List ByteArray := if setB l s = true then vals s else []
theorem vals_len (s : List Sib) : (vals s).length ≤ s.length := by unfold vals; rw [List.length_map]; exact List.length_filter_le _ _
theorem vals_take (s : List Sib) (k : Nat) (h : k < s.length) : vals (s.take (k + 1)) = vals (s.take k) ++ (if s[k].2.1 = true then [] else [s[k].2.2]) := by
  unfold vals
  rw [List.take_succ_eq_append_getElem h, List.filter_append, List.map_append]
  cases e : s[k].2.1 <;> simp [e]
theorem setVals_no {l : List (Int × Int)} {s : List Sib} (h : setB l s = false) : setVals l s = [] := if_neg (by rw [h]; simp)
theorem setVals_yes {l : List (Int × Int)} {s : List Sib} (h : setB l s = true) : setVals l s = vals s := if_pos h
def VGives (w : World) (l : List ByteArray) (e : Ending) (w' : World) : Prop :=
  ∃ a cap, e = .returned (.slice a l.length cap) ∧ ROwnIn 1 tenc w' w.heap.size w'.heap.size a l ∧ Below w.heap.size w w'
theorem run_make_strs (n : Nat) (hn : n ≤ 1048576) (w : World) :
    (Instr.makeSlice 43 (.int .i64 0) (.int .i64 (n : Int))).run Try.prog w = .ok (.slice (some ⟨w.heap.size, 0, none⟩) 0 n) (w.alloc (.cells (madeCells #[.string ⟨#[]⟩] (n * 1)) 9)) := by
  obtain ⟨i0, hi, hz0, hz1, hz2⟩ := info_parts Mk.infoS
  have := run_make (P := Try.prog) w 43 9 i0 _ Try.underlying43 hi hz0 .i64 .i64 0 n (by omega) (by omega) (by rw [hz2]; omega) (by omega)
  rw [hz1] at this
  simpa [Value.cells] using this
end Go.Proofs.Ytiphlffcgjdoaaa.Sb

namespace Go.Proofs.Ytiphlffcgjdoaaa.Sb
open Go.RowKit Go.Proofs.Ytiphlffcgjdoaaa.Mk Go.Proofs.Ytiphlffcgjdoaaa.Rw

set_option maxRecDepth 100000 in
set_option maxHeartbeats 1000000 in
theorem lw_texts (a b : Option Addr) (cap cap' : Nat) (l : List ByteArray) (w : World) (hl : l.length ≤ maxLen) (h : RowAt 1 tenc w a l) (h' : RowAt 1 tenc w b l) :
    Calls Try.prog 19 #[.slice a l.length cap, .slice b l.length cap'] w fun e w' => e = .returned (.bool true) ∧ Below w.heap.size w w' := by
  have H := Lib.hid h
  have H' := Lib.hid h'
  clear h h'
  unfold maxLen at hl
  go_enter Try.func19, Try.ntmps19
  go_wp2
  go_loopw [5] (fun i wr => ∃ (k : Nat), k ≤ l.length ∧ i = .int .i64 k ∧ Below w.heap.size w wr) (fun i _ => l.length - (intOf i).toNat)
  case atStart => exact ⟨0, Nat.zero_le _, rfl, Below.refl _ _⟩
  case round =>
    obtain ⟨k, hk, rfl, hbel⟩ := hrel
    have HB := Lib.hid hbel
    clear hbel
    by_cases hlt : k < l.length
    · obtain ⟨g, off, rfl, hg, c⟩ := tcell (RowAt.mono (by decide) H.out HB.out) hlt
      obtain ⟨g', off', rfl, hg', c'⟩ := tcell (RowAt.mono (by decide) H'.out HB.out) hlt
      generalize l[k] = d at c c'
      have i0 : (0 : Int) ≤ (k : Int) := by omega
      have i1 : (k : Int) < (l.length : Int) := by omega
      go_wp2_with fail
      refine wp_region_held_drew (S := fun w' => w'.cell? ⟨g, off + k, none⟩ = some (.string d) ∧ w'.cell? ⟨g', off' + k, none⟩ = some (.string d)) (by kernel_rfl) (by first | exact ⟨c, c'⟩ | assumption) (fun hHeld => ?_)
      refine tk 0 (v := ?_) ?_
      try simp only [Act.put, n1, n2, n3, n4, n5, n6]
      refine tk 1 (v := ?_) ?_
      try simp only [Act.put, n1, n2, n3, n4, n5, n6]
      refine tk 2 (v := ?_) ?_
      try simp only [Act.put, n1, n2, n3, n4, n5, n6]
      refine tk 3 (v := ?_) ?_
      try simp only [Act.put, n1, n2, n3, n4, n5, n6]
      refine tk 4 (v := ?_) ?_
      try simp only [Act.put, n1, n2, n3, n4, n5, n6]
      refine tk 5 (v := ?_) ?_
      try simp only [Act.put, n1, n2, n3, n4, n5, n6]
      refine tk 6 (v := ?_) ?_
      try simp only [Act.put, n1, n2, n3, n4, n5, n6]
      refine tk 7 (v := ?_) ?_
      try simp only [Act.put, n1, n2, n3, n4, n5, n6]
      refine tk 8 (v := ?_) ?_
      try simp only [Act.put, n1, n2, n3, n4, n5, n6]
      refine wpAnyH_done (by kernel_rfl) ?_ _
      go_wp2
      go_roundw
      case rel => exact ⟨k + 1, by omega, by go_num, HB.out.drew⟩
      case measure => go_light; simp [intOf]; omega
    · go_wp2
      go_ret
      exact ⟨rfl, HB.out⟩
end Go.Proofs.Ytiphlffcgjdoaaa.Sb

namespace Go.Proofs.Ytiphlffcgjdoaaa.La
open Go

/-- As Q; by a goto to a label: J of that label. -/
def exitTo (J : Nat → Act → World → Prop) (Q : Exit → Act → World → Prop) : Exit → Act → World → Prop
  | .goto l, a, w => J l a w
  | e, a, w => Q e a w

section
variable {P : Program} {a : Act} {w : World} {Q : Exit → Act → World → Prop}

theorem wp_scope_labels {c : Code} (J : Nat → Act → World → Prop) (μ : Nat → Act → World → Nat)
    (first : c.wp P (exitTo J Q) a w)
    (pass : ∀ l a w, J l a w → ∃ rest, findLabel c l = some rest ∧ rest.wp P (exitTo (fun l' a' w' => J l' a' w' ∧ μ l' a' w' < μ l a w) Q) a w) : (Code.scope c).wp P Q a w := by
  intro b k cs
  have key : ∀ n l a w, μ l a w = n → J l a w → ∃ rest, findLabel c l = some rest ∧ ∃ e a' w', Q e a' w' ∧ Arrives P (lone (b.at a (.code rest :: .inScope c :: k)) cs w) b k cs e a' w' := by
    intro n
    induction n using Nat.strongRecOn with
    | _ n ih =>
      intro l a w hn hJ
      obtain ⟨rest, hf, hwp⟩ := pass l a w hJ
      refine ⟨rest, hf, ?_⟩
      obtain ⟨e, a₁, w₁, hq, harr⟩ := hwp b (.inScope c :: k) cs
      cases e with
      | normal => exact ⟨.normal, a₁, w₁, hq, Steps.trans harr (.one step_inScope)⟩
      | exit id => exact ⟨.exit id, a₁, w₁, hq, fun k' hk => harr k' (by simp [Go.exitTo, hk])⟩
      | goto l' =>
        obtain ⟨hJ', hlt⟩ := hq
        obtain ⟨rest', hf', e₂, a₂, w₂, hq₂, harr₂⟩ := ih _ (by omega) l' a₁ w₁ rfl hJ'
        have hg : gotoIn l' (.inScope c :: k) = some (.code rest' :: .inScope c :: k) := by simp [gotoIn, hf']
        exact ⟨e₂, a₂, w₂, hq₂, .of_steps (harr _ hg) harr₂⟩
      | ret => exact ⟨_, a₁, w₁, hq, harr⟩
      | panic ch => exact ⟨_, a₁, w₁, hq, harr⟩
      | outgrown => exact ⟨_, a₁, w₁, hq, harr⟩
  obtain ⟨e, a₁, w₁, hq, harr⟩ := first b (.inScope c :: k) cs
  cases e with
  | normal => exact ⟨.normal, a₁, w₁, hq, .head step_scope (Steps.trans harr (.one step_inScope))⟩
  | exit id => exact ⟨.exit id, a₁, w₁, hq, fun k' hk => .head step_scope (harr k' (by simp [Go.exitTo, hk]))⟩
  | goto l' =>
    obtain ⟨rest', hf', e₂, a₂, w₂, hq₂, harr₂⟩ := key _ l' a₁ w₁ rfl hq
    have hg : gotoIn l' (.inScope c :: k) = some (.code rest' :: .inScope c :: k) := by simp [gotoIn, hf']
    exact ⟨e₂, a₂, w₂, hq₂, .of_steps (.head step_scope (harr _ hg)) harr₂⟩
  | ret => exact ⟨_, a₁, w₁, hq, .of_steps (.one step_scope) harr⟩
  | panic ch => exact ⟨_, a₁, w₁, hq, .of_steps (.one step_scope) harr⟩
  | outgrown => exact ⟨_, a₁, w₁, hq, .of_steps (.one step_scope) harr⟩
end
end Go.Proofs.Ytiphlffcgjdoaaa.La

namespace Go.Proofs.Ytiphlffcgjdoaaa.Ge
open Go.RowKit La

def Big (u : Nat) : Prop := u < 18446744073709551616
/-- an error by its code -/
def errV (c : Int) : Value := if c = 0 then .nilIface else .iface 123 (.agg #[.int .i64 c])
def tup (R : Int × Int × Int) : Value := .tuple #[.int .i64 R.1, .int .i64 R.2.1, errV R.2.2]
theorem tup_bad (c : Int) (h : c ≠ 0) : Value.tuple #[.int .i64 0, .int .i64 0, .iface 123 (.agg #[.int .i64 c])] = tup (0, 0, c) := by
  unfold tup errV; rw [if_neg h]
theorem tup_ok (n k : Int) : Value.tuple #[.int .i64 n, .int .i64 k, .nilIface] = tup (n, k, 0) := rfl
/-- behind 'Below' every old cell and mark reads as before -/
theorem bcell {W w1 : World} (hb : Below W.heap.size W w1) : (∀ b o, b < W.heap.size → w1.cell? ⟨b, o, none⟩ = W.cell? ⟨b, o, none⟩) ∧ (∀ b o, b < W.heap.size → w1.frozen? ⟨b, o, none⟩ = W.frozen? ⟨b, o, none⟩) :=
  ⟨fun _ _ h => hb.cell h, fun _ _ h => hb.frozen h⟩
theorem ret_val {a b : Value} (h : a = b) : Ending.returned a = .returned b := by rw [h]
/-- at 'wrong': the code is c, and the answer is that code alone -/
def J0 (s : ByteArray) (a : Int) (R : Int × Int × Int) (w : World) (f : Act) (w' : World) : Prop :=
  w' = w ∧ ∃ (c : Int) (x2 x3 x7 x8 x9 x10 x12 x13 x14 x15 x16 x17 x18 x19 x20 x21 x22 x23 x24 x25 x26 x27 x28 x29 x30 x31 x32 x33 x34 x35 x36 x37 x38 x39 x40 x41 x42 x43 x44 x45 x46 x47 x48 x49 x50 x51 x52 x53 x54 : Value), f = { tmps := #[.string s, .int .i64 a, x2, x3, .int .i64 0, .int .i64 0, .nilIface, x7, x8, x9, x10, .int .i64 c, x12, x13, x14, x15, x16, x17, x18, x19, x20, x21, x22, x23, x24, x25, x26, x27, x28, x29, x30, x31, x32, x33, x34, x35, x36, x37, x38, x39, x40, x41, x42, x43, x44, x45, x46, x47, x48, x49, x50, x51, x52, x53, x54], defers := [] } ∧ R = (0, 0, c) ∧ c ≠ 0
/-- at 'more': i bytes were read and have given u -/
def J1 (s : ByteArray) (n : Nat) (R : Int × Int × Int) (w : World) (f : Act) (w' : World) : Prop :=
  w' = w ∧ ∃ (u i p : Nat) (k q : Int) (x2 x3 x8 x12 x13 x14 x15 x16 x17 x18 x19 x20 x21 x22 x23 x24 x25 x26 x27 x28 x29 x30 x31 x32 x33 x34 x35 x36 x37 x38 x39 x40 x41 x42 x43 x44 x45 x46 x47 x48 x49 x50 x51 x52 x53 x54 : Value), f = { tmps := #[.string s, .int .i64 (n : Nat), x2, x3, .int .i64 0, .int .i64 0, .nilIface, .int .u64 (u : Nat), x8, .int .i64 k, .int .i64 q, .int .i64 3, x12, x13, x14, x15, x16, x17, x18, x19, x20, x21, x22, x23, x24, x25, x26, x27, x28, x29, x30, x31, x32, x33, x34, x35, x36, x37, x38, x39, x40, x41, x42, x43, x44, x45, x46, x47, x48, x49, x50, x51, x52, x53, x54], defers := [] } ∧ k = i ∧ q = p ∧ p = n + i ∧ i < 10 ∧ u < 128 ^ i ∧ R = G s n i u
/-- at 'last': byte i was the last one -/
def J2 (s : ByteArray) (n : Nat) (R : Int × Int × Int) (w : World) (f : Act) (w' : World) : Prop :=
  w' = w ∧ ∃ (u b i p : Nat) (k q : Int) (x2 x3 x12 x13 x14 x15 x16 x17 x18 x19 x20 x21 x22 x23 x24 x25 x26 x27 x28 x29 x30 x31 x32 x33 x34 x35 x36 x37 x38 x39 x40 x41 x42 x43 x44 x45 x46 x47 x48 x49 x50 x51 x52 x53 x54 : Value), f = { tmps := #[.string s, .int .i64 (n : Nat), x2, x3, .int .i64 0, .int .i64 0, .nilIface, .int .u64 (u : Nat), .int .u8 (b : Nat), .int .i64 k, .int .i64 q, .int .i64 3, x12, x13, x14, x15, x16, x17, x18, x19, x20, x21, x22, x23, x24, x25, x26, x27, x28, x29, x30, x31, x32, x33, x34, x35, x36, x37, x38, x39, x40, x41, x42, x43, x44, x45, x46, x47, x48, x49, x50, x51, x52, x53, x54], defers := [] } ∧ k = (i : Int) + 1 ∧ q = p ∧ p = n + i + 1 ∧ i < 10 ∧ b < 256 ∧ Big u ∧ R = if b = 0 ∧ 0 < i then (0, 0, 3) else (unz u, (p : Int), 0)

def JJ (s : ByteArray) (n : Nat) (R : Int × Int × Int) (w : World) (l : Nat) (f : Act) (w' : World) : Prop :=
  if l = 0 then J0 s n R w f w' else if l = 1 then J1 s n R w f w' else if l = 2 then J2 s n R w f w' else False
def mu (l : Nat) (f : Act) : Nat := if l = 0 then 0 else if l = 2 then 1 else 20 - (intOf (f.tmps.getD 9 undef)).toNat

set_option maxRecDepth 100000 in
set_option maxHeartbeats 2000000 in
theorem impl_readNum_neg (s : ByteArray) (a : Int) (h0 : a < 0) (w : World) :
    Calls Try.prog 98 #[.string s, .int .i64 a] w fun e w' => e = .returned (tup (readN s a)) ∧ w = w' := by
  have HR : Hid (readN s a = (0, 0, 1)) := Lib.hid (if_pos h0)
  go_enter Try.func98, Try.ntmps98
  go_wp2
  refine wp_scope_labels (fun l f w' => l = 0 ∧ J0 s a (readN s a) w f w') (fun _ _ _ => 0) ?_ ?_
  · go_wp2
    go_step3
    exact ⟨rfl, rfl, 1, _, _, _, _, _, _, _, _, _, _, _, _, _, _, _, _, _, _, _, _, _, _, _, _, _, _, _, _, _, _, _, _, _, _, _, _, _, _, _, _, _, _, _, _, _, _, _, _, _, rfl, HR.out, by decide⟩
  · rintro l f w' ⟨rfl, rfl, c, x2, x3, x7, x8, x9, x10, x12, x13, x14, x15, x16, x17, x18, x19, x20, x21, x22, x23, x24, x25, x26, x27, x28, x29, x30, x31, x32, x33, x34, x35, x36, x37, x38, x39, x40, x41, x42, x43, x44, x45, x46, x47, x48, x49, x50, x51, x52, x53, x54, rfl, hR, hc⟩
    refine ⟨_, rfl, ?_⟩
    have HR := Lib.hid hR
    clear hR
    go_wp2
    simp only [La.exitTo]
    go_ret3
    refine ⟨ret_val ?_, rfl⟩
    rw [HR.out]
    exact tup_bad c hc

theorem and127 (b : Nat) (h : b < 256) : bits .and .u8 (b : Int) 127 = ((b % 128 : Nat) : Int) := by
  have := u8_and_nat b 127 h (by omega)
  rw [nat_mask7] at this; exact this

theorem and1_64 (u : Nat) (h : Big u) : bits .and .u64 (u : Int) 1 = ((u % 2 : Nat) : Int) := by
  have := u64_and_nat u 1 h (by omega)
  rw [nat_mask1] at this; exact this
theorem ret_int {k : IntKind} {a b : Int} (h : a = b) : Ending.returned (.int k a) = .returned (.int k b) := by rw [h]
theorem not64 (a : Nat) (ha : a < 9223372036854775808) : bits .xor .i64 (-1) (a : Int) = -1 - (a : Int) := i64_not a ha
theorem unz_odd (u : Nat) (h : u % 2 = 1) : -1 - ((u / 2 : Nat) : Int) = unz u := by unfold unz; rw [if_pos h]; omega
theorem unz_even (u : Nat) (h : ¬ u % 2 = 1) : ((u / 2 : Nat) : Int) = unz u := by unfold unz; rw [if_neg h]

set_option maxRecDepth 100000 in
theorem impl_unzigzag (u : Nat) (hu : Big u) (w : World) :
    Calls Try.prog 103 #[.int .u64 (u : Nat)] w fun e w' => e = .returned (.int .i64 (unz u)) ∧ w = w' := by
  have hh : u / 2 < 9223372036854775808 := by unfold Big at hu; omega
  have hc : IntKind.i64.wrap ((u : Int) / 2) = ((u / 2 : Nat) : Int) := IntWalk.i64_in _ (by omega)
  have ha := and1_64 u hu
  have hx : bits .xor .i64 (-1) ((u / 2 : Nat) : Int) = -1 - ((u / 2 : Nat) : Int) := not64 _ hh
  by_cases ho : u % 2 = 1
  · have HU := Lib.hid (unz_odd u ho)
    rw [ho] at ha
    generalize u / 2 = h2 at hc hx HU hh
    clear ho hu
    go_enter Try.func103, Try.ntmps103
    go_wp2
    all_goals go_ret
    all_goals exact ⟨ret_int HU.out, rfl⟩
  · have HU := Lib.hid (unz_even u ho)
    rw [show u % 2 = 0 by omega] at ha
    generalize u / 2 = h2 at hc hx HU hh
    clear ho hu
    go_enter Try.func103, Try.ntmps103
    go_wp2
    all_goals go_ret
    all_goals exact ⟨ret_int HU.out, rfl⟩

theorem step_facts (u b i : Nat) (hi : i < 10) (hu : u < 128 ^ i) (h9 : ¬ (i = 9 ∧ 1 < b)) (hb : b < 256) :
    IntKind.u64.wrap ((b : Int) % 128 * 2 ^ (7 * i)) = ((b % 128 * 128 ^ i : Nat) : Int) ∧ bits .or .u64 (u : Int) ((b % 128 * 128 ^ i : Nat) : Int) = ((u + b % 128 * 128 ^ i : Nat) : Int) := by
  have hl := (sum_lt u b i hi hu h9 hb).1
  have e : (b : Int) % 128 * 2 ^ (7 * i) = ((b % 128 * 128 ^ i : Nat) : Int) := by
    rw [← shl_eq, Int.natCast_mul, Int.natCast_pow, Int.natCast_emod]; rfl
  refine ⟨?_, ?_⟩
  · rw [e, IntKind.wrap_u64]; omega
  · rw [u64_or_nat u (b % 128 * 128 ^ i) (by omega) (by omega), or_eq u (b % 128) i hu]
theorem or_nine (u b : Nat) (hu : u < 128 ^ 9) (hb : b ≤ 1) : bits .or .u64 (u : Int) ((b : Int) % 128 * 9223372036854775808) = ((u + b % 128 * 128 ^ 9 : Nat) : Int) := by
  have h := (step_facts u b 9 (by omega) hu (by omega) (by omega)).2
  have e9 : (128 : Nat) ^ 9 = 9223372036854775808 := by decide
  rw [← h, e9]; rfl
theorem or_zero (b : Nat) (hb : b < 256) : bits .or .u64 0 ((b : Int) % 128) = ((0 + b % 128 * 128 ^ 0 : Nat) : Int) := by
  have h := (step_facts 0 b 0 (by omega) (by omega) (by omega) hb).2
  rw [← h]; simp
theorem JJ0 {s : ByteArray} {n : Nat} {R : Int × Int × Int} {w w' : World} {f : Act} (h : J0 s n R w f w') : JJ s n R w 0 f w' := h
theorem JJ1 {s : ByteArray} {n : Nat} {R : Int × Int × Int} {w w' : World} {f : Act} (h : J1 s n R w f w') : JJ s n R w 1 f w' := h
theorem JJ2 {s : ByteArray} {n : Nat} {R : Int × Int × Int} {w w' : World} {f : Act} (h : J2 s n R w f w') : JJ s n R w 2 f w' := h
/-- what byte i settles, where it is the last one -/
theorem last_R {s : ByteArray} {n i u p : Nat} {R : Int × Int × Int} (hR : R = G s n i u) (hp : p = n + i) (hi : i < 10) (hsz : p < s.size) (h9 : ¬ (i = 9 ∧ 1 < s[p].toNat)) (hb : s[p].toNat < 128) :
    R = if s[p].toNat = 0 ∧ 0 < i then (0, 0, 3) else (unz (u + s[p].toNat % 128 * 128 ^ i), ((p + 1 : Nat) : Int), 0) := by
  subst hp
  rw [← byteN_eq s _ hsz] at h9 hb ⊢
  rw [hR]
  split
  · exact G_zero hi (by omega) h9 hb ‹_›
  · exact G_last hi (by omega) h9 hb ‹_›
theorem more_R {s : ByteArray} {n i u p : Nat} {R : Int × Int × Int} (hR : R = G s n i u) (hp : p = n + i) (hi : i < 10) (hsz : p < s.size) (h9 : ¬ (i = 9 ∧ 1 < s[p].toNat)) (hb : ¬ s[p].toNat < 128) :
    R = G s n (i + 1) (u + s[p].toNat % 128 * 128 ^ i) := by
  subst hp
  rw [← byteN_eq s _ hsz] at h9 hb ⊢
  rw [hR]; exact G_more hi (by omega) h9 hb
theorem ten_R {s : ByteArray} {n i u p : Nat} {R : Int × Int × Int} (hR : R = G s n i u) (hp : p = n + i) (hi : i < 10) (hsz : p < s.size) (h9 : i = 9 ∧ 1 < s[p].toNat) : R = (0, 0, 3) := by
  subst hp
  rw [← byteN_eq s _ hsz] at h9
  rw [hR]; exact G_ten hi (by omega) h9

set_option maxRecDepth 100000 in
set_option maxHeartbeats 2000000 in
theorem impl_readNum_nat (s : ByteArray) (hs : s.size ≤ maxLen) (n : Nat) (w : World) :
    Calls Try.prog 98 #[.string s, .int .i64 (n : Nat)] w fun e w' => e = .returned (tup (readN s n)) ∧ w = w' := by
  unfold maxLen at hs
  have HR : Hid (readN s n = G s n 0 0) := Lib.hid (by unfold readN; rw [if_neg (by omega)]; rfl)
  generalize readN s n = R at HR ⊢
  go_enter Try.func98, Try.ntmps98
  go_wp2
  refine wp_scope_labels (JJ s n R w) (fun l f _ => mu l f) ?_ ?_
  · by_cases hsz : s.size ≤ n
    · have HX := Lib.hid (HR.out.trans (G_short (by omega) (by simpa using hsz)))
      go_wp2
      go_step3
      go_wp2
      go_step3
      exact JJ0 ⟨rfl, 4, _, _, _, _, _, _, _, _, _, _, _, _, _, _, _, _, _, _, _, _, _, _, _, _, _, _, _, _, _, _, _, _, _, _, _, _, _, _, _, _, _, _, _, _, _, _, _, _, _, rfl, HX.out, by decide⟩
    have hsz' : n < s.size := by omega
    have hbb := s[n].toNat_lt
    have ha := and127 s[n].toNat (by omega)
    have h9 : ¬ (0 = 9 ∧ 1 < s[n].toNat) := by omega
    have ho := or_zero s[n].toNat (by omega)
    have HS := Lib.hid (sum_lt 0 s[n].toNat 0 (by omega) (by omega) h9 (by omega))
    by_cases hb8 : s[n].toNat < 128
    · have HL := Lib.hid (last_R HR.out rfl (by omega) hsz' h9 hb8)
      clear h9
      generalize 0 + s[n].toNat % 128 * 128 ^ 0 = V at ho HL HS
      go_wp2
      go_step3
      go_wp2
      go_step3
      exact JJ2 ⟨rfl, V, s[n].toNat, 0, n + 1, _, _, _, _, _, _, _, _, _, _, _, _, _, _, _, _, _, _, _, _, _, _, _, _, _, _, _, _, _, _, _, _, _, _, _, _, _, _, _, _, _, _, _, _, _, _, _, rfl, rfl, rfl, rfl, by omega, by omega, HS.out.1, HL.out⟩
    · have HL := Lib.hid (more_R HR.out rfl (by omega) hsz' h9 hb8)
      clear h9
      generalize 0 + s[n].toNat % 128 * 128 ^ 0 = V at ho HL HS
      go_wp2
      go_step3
      go_wp2
      go_step3
      exact JJ1 ⟨rfl, V, 1, n + 1, _, _, _, _, _, _, _, _, _, _, _, _, _, _, _, _, _, _, _, _, _, _, _, _, _, _, _, _, _, _, _, _, _, _, _, _, _, _, _, _, _, _, _, _, _, _, _, _, rfl, rfl, rfl, rfl, by omega, (HS.out.2 hb8).1, HL.out⟩
  · intro l f w' hJ
    unfold JJ at hJ
    split at hJ
    · rename_i h1
      subst h1
      obtain ⟨rfl, c, x2, x3, x7, x8, x9, x10, x12, x13, x14, x15, x16, x17, x18, x19, x20, x21, x22, x23, x24, x25, x26, x27, x28, x29, x30, x31, x32, x33, x34, x35, x36, x37, x38, x39, x40, x41, x42, x43, x44, x45, x46, x47, x48, x49, x50, x51, x52, x53, x54, rfl, hR, hc⟩ := hJ
      refine ⟨_, rfl, ?_⟩
      have HR' := Lib.hid hR
      clear hR
      go_wp2
      simp only [La.exitTo]
      go_ret3
      refine ⟨ret_val ?_, rfl⟩
      rw [HR'.out]
      exact tup_bad c hc
    split at hJ
    · rename_i _ h1
      subst h1
      obtain ⟨rfl, u, i, p, k, q, x2, x3, x8, x12, x13, x14, x15, x16, x17, x18, x19, x20, x21, x22, x23, x24, x25, x26, x27, x28, x29, x30, x31, x32, x33, x34, x35, x36, x37, x38, x39, x40, x41, x42, x43, x44, x45, x46, x47, x48, x49, x50, x51, x52, x53, x54, rfl, rfl, rfl, hp, hi, hu, hR⟩ := hJ
      refine ⟨_, rfl, ?_⟩
      have HP := Lib.hid hp
      have HU := Lib.hid hu
      have HR' := Lib.hid hR
      clear hp hu hR
      by_cases hsz : s.size ≤ p
      · have HX := Lib.hid (HR'.out.trans (G_short hi (by rw [← HP.out]; exact hsz)))
        go_wp2
        go_step3
        exact ⟨JJ0 ⟨rfl, 4, _, _, _, _, _, _, _, _, _, _, _, _, _, _, _, _, _, _, _, _, _, _, _, _, _, _, _, _, _, _, _, _, _, _, _, _, _, _, _, _, _, _, _, _, _, _, _, _, _, rfl, HX.out, by decide⟩, by go_light; simp [mu, intOf]; omega⟩
      have hsz' : p < s.size := by omega
      have hbb := s[p].toNat_lt
      have ha := and127 s[p].toNat (by omega)
      by_cases h9 : i = 9 ∧ 1 < s[p].toNat
      · have HX := Lib.hid (ten_R HR'.out HP.out hi hsz' h9)
        obtain ⟨rfl, hb1⟩ := h9
        go_wp2
        go_step3
        exact ⟨JJ0 ⟨rfl, 3, _, _, _, _, _, _, _, _, _, _, _, _, _, _, _, _, _, _, _, _, _, _, _, _, _, _, _, _, _, _, _, _, _, _, _, _, _, _, _, _, _, _, _, _, _, _, _, _, _, rfl, HX.out, by decide⟩, by go_light; simp [mu, intOf]⟩
      have HS := Lib.hid (sum_lt u s[p].toNat i hi HU.out h9 (by omega))
      by_cases hb8 : s[p].toNat < 128
      · have HL := Lib.hid (last_R HR'.out HP.out hi hsz' h9 hb8)
        by_cases e9 : i = 9
        · subst e9
          have ho := or_nine u s[p].toNat HU.out (by omega)
          generalize u + s[p].toNat % 128 * 128 ^ 9 = V at ho HL HS
          have hb1 : s[p].toNat ≤ 1 := by omega
          have hd1 : decide (1 < (s[p].toNat : Int)) = false := by simp; omega
          clear h9
          go_wp2
          go_step3
          exact ⟨JJ2 ⟨rfl, V, s[p].toNat, 9, p + 1, _, _, _, _, _, _, _, _, _, _, _, _, _, _, _, _, _, _, _, _, _, _, _, _, _, _, _, _, _, _, _, _, _, _, _, _, _, _, _, _, _, _, _, _, _, _, _, rfl, rfl, rfl, by rw [HP.out], by omega, by omega, HS.out.1, HL.out⟩, by go_light; simp [mu, intOf]⟩
        · obtain ⟨hw, ho⟩ := step_facts u s[p].toNat i hi HU.out h9 (by omega)
          have hne : ((i : Int) + 1 == 10) = false := by simp; omega
          generalize u + s[p].toNat % 128 * 128 ^ i = V at ho HL HS
          generalize s[p].toNat % 128 * 128 ^ i = V' at ho hw
          clear h9
          go_wp2
          go_step3
          exact ⟨JJ2 ⟨rfl, V, s[p].toNat, i, p + 1, _, _, _, _, _, _, _, _, _, _, _, _, _, _, _, _, _, _, _, _, _, _, _, _, _, _, _, _, _, _, _, _, _, _, _, _, _, _, _, _, _, _, _, _, _, _, _, rfl, rfl, rfl, by rw [HP.out], by omega, by omega, HS.out.1, HL.out⟩, by go_light; simp [mu, intOf]; omega⟩
      · have HL := Lib.hid (more_R HR'.out HP.out hi hsz' h9 hb8)
        have hi9 := (HS.out.2 hb8).2
        have HV := Lib.hid (HS.out.2 hb8).1
        obtain ⟨hw, ho⟩ := step_facts u s[p].toNat i hi HU.out h9 (by omega)
        have hne : ((i : Int) + 1 == 10) = false := by simp; omega
        generalize u + s[p].toNat % 128 * 128 ^ i = V at ho HL HV
        generalize s[p].toNat % 128 * 128 ^ i = V' at ho hw
        clear h9 HS
        go_wp2
        go_step3
        exact ⟨JJ1 ⟨rfl, V, i + 1, p + 1, _, _, _, _, _, _, _, _, _, _, _, _, _, _, _, _, _, _, _, _, _, _, _, _, _, _, _, _, _, _, _, _, _, _, _, _, _, _, _, _, _, _, _, _, _, _, _, _, rfl, rfl, rfl, by rw [HP.out]; omega, by omega, HV.out, HL.out⟩, by go_light; simp [mu, intOf]; omega⟩
    split at hJ
    · rename_i _ _ h1
      subst h1
      obtain ⟨rfl, u, b, i, p, k, q, x2, x3, x12, x13, x14, x15, x16, x17, x18, x19, x20, x21, x22, x23, x24, x25, x26, x27, x28, x29, x30, x31, x32, x33, x34, x35, x36, x37, x38, x39, x40, x41, x42, x43, x44, x45, x46, x47, x48, x49, x50, x51, x52, x53, x54, rfl, rfl, rfl, hp, hi, hb, hbig, hR⟩ := hJ
      refine ⟨_, rfl, ?_⟩
      have HR' := Lib.hid hR
      have HB := Lib.hid hbig
      clear hR hp hbig
      by_cases hz : b = 0 ∧ 0 < i
      · have HX := Lib.hid (HR'.out.trans (if_pos hz))
        obtain ⟨rfl, hi0⟩ := hz
        go_wp2
        go_step3
        exact ⟨JJ0 ⟨rfl, 3, _, _, _, _, _, _, _, _, _, _, _, _, _, _, _, _, _, _, _, _, _, _, _, _, _, _, _, _, _, _, _, _, _, _, _, _, _, _, _, _, _, _, _, _, _, _, _, _, _, rfl, HX.out, by decide⟩, by go_light; simp [mu]⟩
      · have HX := Lib.hid (HR'.out.trans (if_neg hz))
        by_cases hb0 : b = 0
        · subst hb0
          have hi0 : i = 0 := by omega
          subst hi0
          go_wp2_with (go_at_call 103; refine (impl_unzigzag u HB.out _).mono ?_; rintro e w1 ⟨rfl, rfl⟩)
          simp only [La.exitTo]
          go_ret3
          refine ⟨ret_val ?_, rfl⟩
          rw [HX.out]
          exact tup_ok _ _
        · have hb1 : ((b : Int) == 0) = false := by simp; omega
          go_wp2_with (go_at_call 103; refine (impl_unzigzag u HB.out _).mono ?_; rintro e w1 ⟨rfl, rfl⟩)
          simp only [La.exitTo]
          go_ret3
          refine ⟨ret_val ?_, rfl⟩
          rw [HX.out]
          exact tup_ok _ _
    · exact hJ.elim

theorem impl_readNum (s : ByteArray) (hs : s.size ≤ maxLen) (a : Int) (w : World) :
    Calls Try.prog 98 #[.string s, .int .i64 a] w fun e w' => e = .returned (tup (readN s a)) ∧ w = w' := by
  by_cases h : a < 0
  · exact impl_readNum_neg s a h w
  · obtain ⟨n, rfl⟩ : ∃ n : Nat, a = n := ⟨a.toNat, by omega⟩
    exact impl_readNum_nat s hs n w
/-- the answer as a struct -/
def nout (R : Int × Int × Int) : Value := .agg #[.int .i64 R.1, .int .i64 R.2.1, .int .i64 R.2.2]
end Go.Proofs.Ytiphlffcgjdoaaa.Ge

namespace Go.Proofs.Ytiphlffcgjdoaaa.Ge
open Go.RowKit

/-- a length-prefixed string: R is what the length gave -/
def cutT (s : ByteArray) (R : Int × Int × Int) : ByteArray × Int × Int :=
  if R.2.2 ≠ 0 then (⟨#[]⟩, 0, R.2.2) else if R.1 < 0 ∨ 8000 < R.1 then (⟨#[]⟩, 0, 3)
  else if (s.size : Int) - R.1 < R.2.1 then (⟨#[]⟩, 0, 4) else (s.extract R.2.1.toNat (R.2.1 + R.1).toNat, R.2.1 + R.1, 0)
theorem cut_bad (s : ByteArray) (a b c : Int) (h : c ≠ 0) : cutT s (a, b, c) = (⟨#[]⟩, 0, c) := if_pos h
theorem cut_range (s : ByteArray) (a b : Int) (h : a < 0 ∨ 8000 < a) : cutT s (a, b, 0) = (⟨#[]⟩, 0, 3) := by
  unfold cutT; rw [if_neg (by simp), if_pos h]
theorem cut_short (s : ByteArray) (k m : Nat) (h : k ≤ 8000) (h2 : s.size < m + k) : cutT s ((k : Int), (m : Int), 0) = (⟨#[]⟩, 0, 4) := by
  unfold cutT; rw [if_neg (by simp), if_neg (by simp; omega), if_pos (by simp; omega)]
theorem cut_ok (s : ByteArray) (k m : Nat) (h : k ≤ 8000) (h2 : m + k ≤ s.size) : cutT s ((k : Int), (m : Int), 0) = (s.extract m (m + k), (m : Int) + (k : Int), 0) := by
  unfold cutT
  rw [if_neg (by simp), if_neg (by simp; omega), if_neg (by simp; omega)]
  simp only
  rw [show ((m : Int) + (k : Int)).toNat = m + k by omega, Int.toNat_natCast]
/-- a number that was read ends inside the string -/
theorem G_at (s : ByteArray) (a : Nat) : ∀ k i u, 10 - i = k → (G s a i u).2.2 = 0 → ∃ m : Nat, (G s a i u).2.1 = (m : Int) ∧ m ≤ s.size := by
  intro k
  induction k with
  | zero => intro i u h hz; rw [G_end (by omega)] at hz; simp at hz
  | succ k ih =>
    intro i u h hz
    have hi : i < 10 := by omega
    by_cases h1 : s.size ≤ a + i
    · rw [G_short hi h1] at hz; simp at hz
    by_cases h2 : i = 9 ∧ 1 < byteN s (a + i)
    · rw [G_ten hi h1 h2] at hz; simp at hz
    by_cases h3 : byteN s (a + i) < 128
    · by_cases h4 : byteN s (a + i) = 0 ∧ 0 < i
      · rw [G_zero hi h1 h2 h3 h4] at hz; simp at hz
      · rw [G_last hi h1 h2 h3 h4]
        exact ⟨a + i + 1, rfl, by omega⟩
    · rw [G_more hi h1 h2 h3] at hz ⊢
      exact ih _ _ (by omega) hz
theorem readN_at (s : ByteArray) (a : Int) (h : (readN s a).2.2 = 0) : ∃ m : Nat, (readN s a).2.1 = (m : Int) ∧ m ≤ s.size := by
  unfold readN at h ⊢
  split at h
  · simp at h
  · rw [if_neg (by assumption)]; exact G_at s _ _ 0 0 rfl h
def ttup (T : ByteArray × Int × Int) : Value := .tuple #[.string T.1, .int .i64 T.2.1, errV T.2.2]
def tout (T : ByteArray × Int × Int) : Value := .agg #[.string T.1, .int .i64 T.2.1, .int .i64 T.2.2]
theorem ttup_bad (c : Int) (h : c ≠ 0) : Value.tuple #[.string ⟨#[]⟩, .int .i64 0, .iface 123 (.agg #[.int .i64 c])] = ttup (⟨#[]⟩, 0, c) := by
  unfold ttup errV; rw [if_neg h]

set_option maxRecDepth 100000 in
set_option maxHeartbeats 2000000 in
theorem impl_readText (s : ByteArray) (hs : s.size ≤ maxLen) (h8 : s.size ≤ 100000) (a : Int) (w : World) :
    Calls Try.prog 99 #[.string s, .int .i64 a] w fun e w' => e = .returned (ttup (cutT s (readN s a))) ∧ Below w.heap.size w w' := by
  have hK := fun W => impl_readNum s hs a W
  have hat := readN_at s a
  generalize readN s a = R at hK hat ⊢
  obtain ⟨r1, r2, r3⟩ := R
  unfold tup at hK
  simp only at hK hat
  by_cases h3 : r3 = 0
  · subst h3
    obtain ⟨m, rfl, hm⟩ := hat rfl
    unfold errV at hK
    simp only [if_true] at hK
    have HK := Lib.hid hK
    clear hK hat
    by_cases hr : r1 < 0 ∨ 8000 < r1
    · have HX := Lib.hid (cut_range s r1 m hr)
      rcases hr with hr | hr
      all_goals
        go_enter Try.func99, Try.ntmps99
        go_wp2_with fail
        refine (HK.out _).mono ?_
        rintro e w1 ⟨rfl, rfl⟩
        go_wp2
        go_ret3
        exact ⟨ret_val (by rw [HX.out]; exact ttup_bad 3 (by decide)), Below.refl _ _⟩
    · obtain ⟨k, rfl⟩ : ∃ k : Nat, r1 = k := ⟨r1.toNat, by omega⟩
      have hk8 : k ≤ 8000 := by omega
      have d1 : decide ((k : Int) < 0) = false := by simp
      have d2 : decide (8000 < (k : Int)) = false := by simp; omega
      clear hr
      by_cases hsh : s.size < m + k
      · have HX := Lib.hid (cut_short s k m hk8 hsh)
        have t1 : (s.size : Int) - (m : Int) < (k : Int) := by omega
        go_enter Try.func99, Try.ntmps99
        go_wp2_with fail
        refine (HK.out _).mono ?_
        rintro e w1 ⟨rfl, rfl⟩
        go_wp2
        go_ret3
        exact ⟨ret_val (by rw [HX.out]; exact ttup_bad 4 (by decide)), Below.refl _ _⟩
      · have HX := Lib.hid (cut_ok s k m hk8 (by omega))
        have t1 : (k : Int) ≤ (s.size : Int) - (m : Int) := by omega
        have t2 : ((m : Int) + (k : Int)).toNat = m + k := by omega
        have hxs : (s.extract m (m + k)).size ≤ 1000000 := by simp; omega
        have hJ := fun W => Nu.joined_one (s.extract m (m + k)) W hxs
        have HJ := Lib.hid hJ
        clear hJ hxs
        go_enter Try.func99, Try.ntmps99
        go_wp2_with fail
        refine (HK.out _).mono ?_
        rintro e w1 ⟨rfl, rfl⟩
        go_wp2_with fail
        refine (HJ.out _).mono ?_
        rintro e w2 ⟨rfl, hb2⟩
        go_wp2
        go_ret3
        exact ⟨ret_val (by rw [HX.out]; rfl), hb2⟩
  · unfold errV at hK
    simp only [if_neg h3] at hK
    have HK := Lib.hid hK
    have HX := Lib.hid (cut_bad s r1 r2 r3 h3)
    clear hK hat
    go_enter Try.func99, Try.ntmps99
    go_wp2_with fail
    refine (HK.out _).mono ?_
    rintro e w1 ⟨rfl, rfl⟩
    go_wp2
    all_goals go_ret3
    all_goals exact ⟨ret_val (by rw [HX.out]; exact ttup_bad r3 h3), Below.refl _ _⟩

theorem getN_at (s : ByteArray) (a : Int) (h : (getN s a).2.2 = 0) : ∃ m : Nat, (getN s a).2.1 = (m : Int) ∧ m ≤ s.size := by
  unfold getN at h ⊢
  split at h
  · simp at h
  · rw [if_neg (by assumption)]; exact readN_at s a h

end Go.Proofs.Ytiphlffcgjdoaaa.Ge
