/- Parts of a law: SeenBytes. Conditions: on sizes, as each says. -/
import Derived.Test.YtiaoifodaoifjaaDoorZ1
import Derived.WalkArith
import Derived.Deep.RegionHeld3
import Derived.Test.YtiaoifodaoifjaaDoorZ2
set_option linter.unusedSimpArgs false
set_option linter.unusedVariables false
namespace Go.Proofs.YtiaoifodaoifjaaDoor.Mk
open Go.RowKit
theorem impl_ret_str {a b : ByteArray} (h : a = b) : Ending.returned (.string a) = .returned (.string b) := by rw [h]
theorem impl_wf_dot {m : Int × Int} (h : dotB m = true) : (Lit.int .i64 m.1).wf = true ∧ (Lit.int .i64 m.2).wf = true := by
  have := (dotB_iff m).1 h
  exact ⟨WalkArith.wf_i64 (by omega), WalkArith.wf_i64 (by omega)⟩
set_option maxRecDepth 100000 in
set_option maxHeartbeats 1000000 in
theorem markBytes (m : Int × Int) (w : World) (hd : dotB m = true) :
    Calls Tryd.prog 50 #[mv m] w fun e w' => e = .returned (.string (markS m)) ∧ Below w.heap.size w w' := by
  have hm := (dotB_iff m).1 hd
  have hw := impl_wf_dot hd
  have HE : Hid (markS m = Nu.numS m.1 ++ Nu.numS m.2) := jj rfl
  rw [HE.out]
  clear HE hd
  obtain ⟨x, y⟩ := m
  unfold mv
  simp only at hm hw ⊢
  have Wx := jj hw.1
  have Wy := jj hw.2
  have sx := Nu.numS_size_of x (by omega)
  have sy := Nu.numS_size_of y (by omega)
  clear hw
  have V := jj ((Var2.new w (.int .i64 x) (.int .i64 y) 64).below (step_drew _))
  have D := jj ((show Base w _ from step_alloc w (.cells #[.int .i64 x, .int .i64 y] 64)).below (step_drew _))
  go_enter Tryd.func50, Tryd.ntmps50
  go_wp2_with fail
  refine wp_region_held_drew (S := (fun w' => w'.cell? ⟨w.heap.size, 0, none⟩ = some (.int .i64 x) ∧ w'.cell? ⟨w.heap.size, 1, none⟩ = some (.int .i64 y))) (by kernel_rfl) (by exact ⟨V.out.c0, V.out.c1⟩) (fun hHeld => ?_)
  refine tk 0 (v := ?_) ?_
  try walk_nrm
  refine tk 1 (v := ?_) ?_
  try walk_nrm
  refine tk 3 (v := ?_) ?_
  try walk_nrm
  refine tk 4 (v := ?_) ?_
  try walk_nrm
  refine rd 2 (fun K hK => ?_)
  go_simp
  go_at_call 49
  refine (Nu.impl_PutNum x Wx.out _).mono ?_
  rintro e w1 ⟨rfl, hb⟩
  rw [Nu.numS_mk]
  replace V := jj (V.out.below hb)
  replace D := jj (D.out.below hb)
  clear hb
  go_wp2_with fail
  refine hK.out _ _ (by exact ⟨V.out.c0, V.out.c1⟩) (fun hHeld => ?_)
  clear hK K
  try walk_nrm
  refine rd 5 (fun K hK => ?_)
  go_simp
  go_at_call 49
  refine (Nu.impl_PutNum y Wy.out _).mono ?_
  rintro e w2 ⟨rfl, hb⟩
  rw [Nu.numS_mk]
  replace V := jj (V.out.below hb)
  replace D := jj (D.out.below hb)
  clear hb
  go_wp2_with fail
  refine hK.out _ _ (by exact ⟨V.out.c0, V.out.c1⟩) (fun hHeld => ?_)
  clear hK K
  try walk_nrm
  refine rd 6 (fun K hK => ?_)
  go_simp
  have V2 := V
  have hb := step_alloc w2 (.cells #[.string (Nu.numS x), .string (Nu.numS y)] 9)
  replace V := jj (V.out.below hb)
  clear hb
  refine hK.out _ _ (by exact ⟨V.out.c0, V.out.c1⟩) (fun hHeld => ?_)
  clear hK K
  try walk_nrm
  refine rd 7 (fun K hK => ?_)
  go_simp
  go_at_call 24
  refine (Nu.joined_two (Nu.numS x) (Nu.numS y) w2 (by omega)).mono ?_
  rintro e w3 ⟨rfl, hb⟩
  have V0 := jj (V.out)
  replace V := jj (V2.out.below hb)
  replace D := jj (D.out.below hb)
  clear hb
  go_wp2_with fail
  refine hK.out _ _ (by exact ⟨V.out.c0, V.out.c1⟩) (fun hHeld => ?_)
  clear hK K
  try walk_nrm
  refine tk 8 (v := ?_) ?_
  try walk_nrm
  refine rx ?_
  go_wp2
  go_ret
  exact ⟨rfl, D.out⟩
theorem infoS : (Tryd.prog.info? 9).map (fun i => (i.zero, i.size, i.bytes)) = some (some (.string ⟨#[]⟩), 1, 16) := by kernel_rfl
theorem wpList_append_str (w0 : World) {ops : Array Oper} {rest : List Oper} {o : Oper} {a : Act} {Q : Exit → Act → World → Prop} (hg : o.guard = none) (s x : Operand)
    (hop : o.op = .call { callee := .builtin .append, args := #[s, x], argTypes := #[72, 72] }) (B : Nat) (v : Value) (l : List ByteArray) (m : ByteArray) (hs : a.eval s = v) (G : Nat) (hG : w0.heap.size = G)
    (hx : a.eval x = .slice (some ⟨G, 0, none⟩) 1 1) (hown : w0.ownsRow B 9 1 v l.length (l.map .string)) (hl : l.length ≤ 1000000) (hB : B ≤ w0.heap.size)
    (h : ∀ v' w', w'.ownsRow B 9 1 v' (l ++ [m]).length ((l ++ [m]).map .string) → Below B w0 w' → wpList Tryd.prog ops Q rest (a.put o.dst v') w') :
    wpList Tryd.prog ops Q (o :: rest) a (w0.alloc (.cells #[.string m] 9)) := by
  subst hG
  obtain ⟨i0, hi, hz0, hz1, hz2⟩ := info_parts infoS
  refine wpList_append_own _ hg s x 72 hop B 9 i0 _ 1 16 Tryd.underlying72 hi hz0 hz1 hz2 rfl (by decide) v l.length (l.map .string) hs (hown.alloc _) ⟨w0.heap.size, 0, none⟩ 1 1 [.string m] hx rfl
    (World.news_of_block (cs := #[.string m]) (heap_alloc_new w0 _)) (fun u hu => by simp at hu; subst hu; rfl) (by unfold maxLen; omega) (by omega) (by simp; omega) (fun v' w' h1 h2 _ => h v' w' ?_ ?_)
  · rw [List.map_append, List.length_append]; exact h1
  · exact ((Below.refl B w0).alloc hB _).grown h2 (by simp; omega) (fun k hk => (hown.lt k hk).1)
theorem own_strs {w : World} {B n : Nat} {v : Value} {l : List ByteArray} (h : w.ownsRow B 9 1 v n (l.map .string)) (h0 : 0 < n) :
    ∃ g cap, v = .slice (some ⟨g, 0, none⟩) l.length cap ∧ ∀ i (hi : i < l.length), w.cell? ⟨g, i, none⟩ = some (.string l[i]) := by
  obtain ⟨hlen, hc⟩ := h
  have hn : n = l.length := by simp at hlen; omega
  subst hn
  rcases hc with ⟨rfl, h1⟩ | ⟨g, cap, cur, rfl, hg, hh, hn, hm, hs, ht⟩
  · omega
  · refine ⟨g, cap, rfl, fun i hi => ?_⟩
    have e : cur[i]? = some (.string l[i]) := by
      have h1 : (cur.toList.take (l.length * 1))[i]? = some (.string l[i]) := by rw [ht]; simp [hi]
      rw [List.getElem?_take_of_lt (by omega)] at h1
      simpa using h1
    simp [World.cell?, hh, e]
def partsOf (l : List (Int × Int)) (k : Nat) : List ByteArray := Nu.numS l.length :: (l.take k).map markS
theorem partsOf_next (l : List (Int × Int)) (k : Nat) (h : k < l.length) : partsOf l (k + 1) = partsOf l k ++ [markS l[k]] := by
  unfold partsOf; rw [List.take_succ_eq_append_getElem h, List.map_append]; rfl
theorem cat_parts (l : List (Int × Int)) (k : Nat) : Nu.cat (partsOf l k) = Nu.enc (Nu.fold l.length) ++ (l.take k).flatMap markB := by
  unfold partsOf Nu.cat
  rw [List.map_cons, List.flatten_cons, Nu.numS_data, List.map_map]
  rw [List.flatMap_def, show List.map ((fun x => x.data.toList) ∘ markS) (l.take k) = (l.take k).map markB from List.map_congr_left fun m _ => markS_data m]
theorem own_lit (w : World) (s : ByteArray) (B : Nat) (hB : B ≤ w.heap.size) : (w.alloc (.cells #[.string s] 9)).ownsRow B 9 1 (.slice (some ⟨w.heap.size, 0, none⟩) 1 1) [s].length ([s].map .string) :=
  ⟨rfl, .inr ⟨w.heap.size, 1, #[.string s], rfl, hB, heap_alloc_new w _, Nat.le_refl _, by unfold maxLen; omega, rfl, rfl⟩⟩
set_option maxRecDepth 100000 in
set_option maxHeartbeats 2000000 in
theorem impl_seenBytes (a : Option Addr) (cap : Nat) (l : List (Int × Int)) (w : World) (hl : l.length ≤ maxLen) (h : MarksAt w a l) :
    Calls Tryd.prog 26 #[.slice a l.length cap] w fun e w' => e = .returned (.string (bytesV l)) ∧ Below w.heap.size w w' := by
  have H := jj h
  clear h
  cases hr : rightB l
  · have HE := jj (bytesV_no hr)
    go_enter Tryd.func26, Tryd.ntmps26
    go_wp2_with (go_at_call 22; refine (seenRight _ _ l _ hl H.out).mono ?_; rintro e w' ⟨rfl, hb⟩)
    go_ret
    exact ⟨impl_ret_str HE.out.symm, hb⟩
  · have HR := jj hr
    have h5 := right_len hr
    have HE := jj (bytesV_yes hr)
    go_enter Tryd.func26, Tryd.ntmps26
    go_wp2_with fail
    refine (seenRight a cap l _ hl H.out).mono ?_
    rintro e w1 ⟨rfl, hb⟩
    have HB1 := jj hb
    clear hb
    go_wp2_with fail
    refine (Nu.impl_PutNum (l.length : Int) (WalkArith.wf_i64 (by omega)) _).mono ?_
    rintro e w2 ⟨rfl, hb2⟩
    rw [Nu.numS_mk]
    have HB2 := jj (HB1.out.trans (hb2.mono HB1.out.size))
    clear hb2
    go_wp2
    go_loopw [3, 15] (fun z i wr => ∃ (k : Nat), k ≤ l.length ∧ i = .int .i64 k ∧ wr.ownsRow w.heap.size 9 1 z (partsOf l k).length ((partsOf l k).map .string) ∧ Below w.heap.size w wr) (fun _ i _ => l.length - (intOf i).toNat)
    case atStart => exact ⟨0, Nat.zero_le _, rfl, own_lit w2 _ _ HB2.out.size, HB2.out.alloc HB2.out.size _⟩
    case round =>
      obtain ⟨k, hk, rfl, ho, hbel⟩ := hrel
      have HO := jj ho
      have HB := jj hbel
      clear ho hbel
      have HL : Hid ((partsOf l k).length ≤ 6) := jj (by unfold partsOf; simp; omega)
      by_cases hlt : k < l.length
      · obtain ⟨g, off, rfl, hg, c0, c1⟩ := (H.out.mono HB.out).cells hlt
        have hd := right_dot HR.out _ (List.getElem_mem hlt)
        have HS := jj (partsOf_next l k hlt)
        have HD := jj hd
        clear hd
        generalize l[k] = m at c0 c1 HS HD
        obtain ⟨x, y⟩ := m
        simp only at c0 c1
        go_wp2_with fail
        refine (markBytes (x, y) _ HD.out).mono ?_
        rintro e w3 ⟨rfl, hb3⟩
        have HO3 := jj (own_below (HO.out.alloc (.cells #[.int .i64 x, .int .i64 y] 64)) hb3)
        have HB3 := jj ((HB.out.alloc HB.out.size (.cells #[.int .i64 x, .int .i64 y] 64)).trans (hb3.mono (by have := HB.out.size; simp; omega)))
        clear hb3
        generalize markS (x, y) = p at HS ⊢
        go_wp2_with (at_builtin; refine wpList_append_str _ rfl _ _ rfl w.heap.size _ (partsOf l k) p (by rfl) w3.heap.size (by rfl) (by rfl) HO3.out (by have := HL.out; omega) HB3.out.size ?_; intro v' w4 ho4 hb4)
        have HO4 := jj ho4
        have HB4 := jj (HB3.out.trans hb4)
        clear ho4 hb4
        go_wp2
        go_roundw
        case rel => exact ⟨k + 1, by omega, by go_num, by rw [HS.out]; exact HO4.out, HB4.out⟩
        case measure => go_light; simp [intOf]; omega
      · obtain ⟨g, cp, rfl, hc⟩ := own_strs HO.out (by unfold partsOf; simp)
        have hcat : Nu.cat (partsOf l k) = seenB l := by rw [cat_parts, List.take_of_length_le (by omega)]; rfl
        have hle := flat_length_le l (right_dot HR.out)
        have hsz : (Nu.cat (partsOf l k)).length ≤ 1000000 := by
          have h2 := Nu.enc_len10 (Nu.fold l.length) (Nu.fold_lt _ (by omega))
          rw [hcat]; unfold seenB; rw [List.length_append]; omega
        have HC := jj hc
        have HT := jj hcat
        have HZ := jj hsz
        clear hc hcat hsz hle
        go_wp2_with fail
        refine (Nu.joined_any g (partsOf l k) cp _ (by have := HL.out; omega) HZ.out HC.out).mono ?_
        rintro e w5 ⟨rfl, hb5⟩
        rw [HT.out, ← HE.out]
        go_wp2
        go_ret
        exact ⟨rfl, HB.out.trans (hb5.mono HB.out.size)⟩
end Go.Proofs.YtiaoifodaoifjaaDoor.Mk
