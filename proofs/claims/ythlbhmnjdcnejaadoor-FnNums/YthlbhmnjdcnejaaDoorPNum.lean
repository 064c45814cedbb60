/- The law of encodings: a drawn number, or string, is got back from its bytes, with the place behind it; of bytes that end too early nothing is got. Condition: errors.errorType holds the handle of 'error'. -/
import Derived.Test.YthlbhmnjdcnejaaDoorPNumMath
import Derived.Test.YthlbhmnjdcnejaaDoorSource
import Derived.WalkArith
namespace Go.Proofs.YthlbhmnjdcnejaaDoor.Pn
open Go.RowKit Nu Ge Dr

theorem below_of {w w1 w2 : World} {g : Nat} (h : Below w.heap.size w w1) (hg : w1.grownBy w2 (some g)) (hB : w.heap.size ≤ g) : Below w.heap.size w w2 :=
  h.grown hg h.size (fun k hk => by injection hk with hk; omega)
def IntBelow (w : World) (e : Ending) (w' : World) : Prop := ∃ x : Int, (Lit.int .i64 x).wf = true ∧ e = .returned (.int .i64 x) ∧ Below w.heap.size w w'

set_option maxRecDepth 100000 in
set_option maxHeartbeats 2000000 in
theorem any_draw (w : World) (B g : Nat) (h : HasSrc w B g) : Calls Tryd.prog 13 #[.pointer (some ⟨g, 0, none⟩)] w (DrawnInt w B g) := by
  have hBg := h.lt
  have H := Lib.hid h
  clear h
  go_enter Tryd.func13, Tryd.ntmps13
  go_wp2_with fail
  refine (one_draw w B g 4 (by omega) (by omega) H.out).mono ?_
  rintro e w1 ⟨r, rfl, hs1, hg1⟩
  have HS1 := Lib.hid hs1
  have HB1 := Lib.hid ((Below.refl B w).grown hg1 (by omega) (fun k hk => by injection hk with hk; omega))
  have hz1 := hg1.size
  clear hs1 hg1
  cases r
  · go_wp2_with fail
    refine (n_draw w1 B g 1099511627776 (by omega) (by omega) HS1.out).mono ?_
    rintro e w2 ⟨r, hr, rfl, hs2, hg2⟩
    have HS2 := Lib.hid hs2
    have HB2 := Lib.hid (HB1.out.grown hg2 (by omega) (fun k hk => by injection hk with hk; omega))
    clear hs2 hg2
    go_wp2
    go_ret
    exact ⟨_, WalkArith.wf_i64 (by omega), rfl, HS2.out, HB2.out⟩
  · go_wp2_with fail
    refine (edge_draw w1 B g HS1.out).mono ?_
    rintro e w2 ⟨x, hx, rfl, hs2, hb2⟩
    have HS2 := Lib.hid hs2
    have HB2 := Lib.hid (HB1.out.trans hb2)
    clear hs2 hb2
    go_wp2
    go_ret
    exact ⟨x, hx, rfl, HS2.out, HB2.out⟩

set_option maxRecDepth 100000 in
theorem drawPutNum (w : World) (a : Option Addr) (len cap : Nat) (hl : len ≤ 1048576) (h : Bytes8 w w.heap.size a len) :
    Calls Tryd.prog 4 #[.slice a len cap] w (IntBelow w) := by
  have H0 := Lib.hid (source_new w a len cap hl h)
  clear h
  go_enter Tryd.func4, Tryd.ntmps4
  go_wp2_with fail
  refine H0.out.mono ?_
  rintro e w1 ⟨rfl, hs1, hb1⟩
  have HS1 := Lib.hid hs1
  have HB1 := Lib.hid hb1
  clear hs1 hb1
  go_wp2_with fail
  refine (any_draw w1 w.heap.size w.heap.size HS1.out).mono ?_
  rintro e w2 ⟨x, hx, rfl, hs2, hb2⟩
  have HB2 := Lib.hid (HB1.out.trans hb2)
  clear hs2 hb2
  go_wp2
  go_ret
  exact ⟨x, hx, rfl, HB2.out⟩

set_option maxRecDepth 100000 in
set_option maxHeartbeats 2000000 in
theorem drawPutText (w : World) (a : Option Addr) (len cap : Nat) (hl : len ≤ 1048576) (h : Bytes8 w w.heap.size a len) :
    Calls Tryd.prog 8 #[.slice a len cap] w (StrBelow w 30000) := by
  have H0 := Lib.hid (source_new w a len cap hl h)
  clear h
  go_enter Tryd.func8, Tryd.ntmps8
  go_wp2_with fail
  refine H0.out.mono ?_
  rintro e w1 ⟨rfl, hs1, hb1⟩
  have HS1 := Lib.hid hs1
  have HB1 := Lib.hid hb1
  clear hs1 hb1 H0
  go_wp2_with fail
  refine (one_draw w1 w.heap.size w.heap.size 8 (by omega) (by omega) HS1.out).mono ?_
  rintro e w2 ⟨r, rfl, hs2, hg2⟩
  have HS2 := Lib.hid hs2
  have HB2 := Lib.hid (below_of HB1.out hg2 (Nat.le_refl _))
  clear hs2 hg2 HS1 HB1
  cases r
  · go_wp2_with fail
    refine (n_draw w2 w.heap.size w.heap.size 20 (by omega) (by omega) HS2.out).mono ?_
    rintro e w3 ⟨r, hr, rfl, hs3, hg3⟩
    have HS3 := Lib.hid hs3
    have HB3 := Lib.hid (below_of HB2.out hg3 (Nat.le_refl _))
    clear hs3 hg3 HS2 HB2
    go_wp2_with fail
    refine (bytes_draw w3 w.heap.size w.heap.size r (by omega) HS3.out).mono ?_
    rintro e w4 ⟨t, ht, rfl, hs4, hb4, hz4⟩
    have HB4 := Lib.hid (HB3.out.trans hb4)
    clear hs4 hb4 HS3 HB3
    go_wp2
    go_ret
    exact ⟨t, by omega, rfl, HB4.out⟩
  · go_wp2_with fail
    refine (n_draw w2 w.heap.size w.heap.size 3 (by omega) (by omega) HS2.out).mono ?_
    rintro e w3 ⟨r, hr, rfl, hs3, hg3⟩
    have hmk := run_make_row' (P := Tryd.prog) 22 5 (.int .u8 0) 1 Tryd.underlying22 info8 rfl .i64 .i64 (19999 + r) (by omega) (by omega) w3
    have hcv := (Row.new w3 (19999 + r)).string (19999 + r)
    rw [List.length_replicate] at hcv
    have hB3 := below_of HB2.out hg3 (Nat.le_refl _)
    have HB4 := Lib.hid (hB3.alloc hB3.size (.cells (madeCells #[.int .u8 0] (19999 + r)) 5))
    have ec : ((19999 + r : Nat) : Int) = 19999 + (r : Int) := by omega
    rw [ec] at hmk
    clear hs3 hg3 HS2 HB2 hB3 ec
    go_wp2
    go_ret
    exact ⟨_, by rw [← size_data]; simp; omega, rfl, HB4.out⟩

theorem numS_len (n : Int) (hn : -9223372036854775808 ≤ n ∧ n ≤ 9223372036854775807) : 1 ≤ (numS n).size ∧ (numS n).size ≤ 10 := by
  rw [← size_data, numS_data]
  exact ⟨enc_pos _, enc_len10 _ (fold_lt n hn)⟩
theorem field4n (W : World) : (Instr.field 26 (.agg #[.int .i64 0, .int .i64 0, .int .i64 4]) 2).run Tryd.prog W = .ok (.int .i64 4) W := by kernel_rfl
theorem field4t (t : ByteArray) (a : Int) (W : World) : (Instr.field 31 (.agg #[.string t, .int .i64 a, .int .i64 4]) 2).run Tryd.prog W = .ok (.int .i64 4) W := by kernel_rfl

set_option maxRecDepth 100000 in
set_option maxHeartbeats 4000000 in
theorem law_FnNums (a0 a1 : Option Addr) (len0 cap0 len1 cap1 : Nat) (w : World) (hl0 : len0 ≤ 1048576) (hl1 : len1 ≤ 1048576) (h0 : Bytes8 w w.heap.size a0 len0) (h1 : Bytes8 w w.heap.size a1 len1) (hE : As.ErrType w) :
    Calls Tryd.prog 3 #[.slice a0 len0 cap0, .slice a1 len1 cap1] w fun e w' => e = .returned (.bool true) ∧ Below w.heap.size w w' := by
  have H1 := Lib.hid h1
  have HE := Lib.hid hE
  have HD := Lib.hid (drawPutNum w a0 len0 cap0 hl0 h0)
  have d0 : decide (1048576 < (len0 : Int)) = false := by simp; omega
  have d1 : decide (1048576 < (len1 : Int)) = false := by simp; omega
  clear h0 h1 hE
  go_enter Tryd.func3, Tryd.ntmps3
  go_wp2_with fail
  refine HD.out.mono ?_
  rintro e w1 ⟨n, hn, rfl, hb1⟩
  have HB1 := Lib.hid hb1
  have hbn := bounds_i64 hn
  have hns := numS_len n hbn
  have K1 := Lib.hid (fun W => impl_PutNum n hn W)
  have K2 := Lib.hid (fun W => spec_PutNum n hn W)
  have hX : ((⟨#[120, 121]⟩ ++ numS n) ++ ⟨#[122]⟩ : ByteArray).data.toList = [120, 121] ++ (enc (fold n) ++ [122]) := by simp [ByteArray.data_append, numS]
  have hX2 : ((numS n).extract 0 ((numS n).size - 1)).data.toList = (enc (fold n)).take ((enc (fold n)).length - 1) := by
    rw [ByteArray.data_extract, Array.toList_extract, numS_data, List.extract_eq_take_drop, ← size_data, numS_data]; simp
  have hsz1 : ((⟨#[120, 121]⟩ ++ numS n) ++ ⟨#[122]⟩ : ByteArray).size ≤ maxLen := by rw [ByteArray.size_append, ByteArray.size_append]; show 2 + (numS n).size + 1 ≤ maxLen; unfold maxLen; omega
  have hsz2 : ((numS n).extract 0 ((numS n).size - 1)).size ≤ maxLen := by rw [ByteArray.size_extract]; unfold maxLen; omega
  have K3 := fun W h => impl_GetNum ((⟨#[120, 121]⟩ ++ numS n) ++ ⟨#[122]⟩) hsz1 2 W h
  have K4 := fun W h => impl_GetNum ((numS n).extract 0 ((numS n).size - 1)) hsz2 0 W h
  rw [num_back n hbn _ hX] at K3
  rw [num_short n hbn _ hX2] at K4
  unfold nout at K3 K4
  simp only at K3 K4
  have HK3 := Lib.hid K3
  have HK4 := Lib.hid K4
  have HN := Lib.hid (show ByteArray.mk (enc (fold n)).toArray = numS n from rfl)
  clear hX hX2 hsz1 hsz2 K3 K4 hb1 HD hbn hn
  go_wp2_with fail
  refine (K1.out _).mono ?_
  rintro e w2 ⟨rfl, hb2⟩
  have HB2 := Lib.hid (HB1.out.trans (hb2.mono HB1.out.size))
  clear hb2
  rw [HN.out]
  go_wp2_with fail
  refine (K2.out _).mono ?_
  rintro e w3 ⟨rfl, hb3⟩
  have HB3 := Lib.hid (HB2.out.trans (hb3.mono HB2.out.size))
  have HE3 := Lib.hid (HE.out.below HB3.out)
  clear hb3
  rw [HN.out]
  generalize numS n = ns at hns HK3 HK4 ⊢
  go_wp2_with fail
  refine (HK3.out _ HE3.out).mono ?_
  rintro e w4 ⟨rfl, hb4⟩
  have HB4 := Lib.hid (HB3.out.trans (hb4.mono HB3.out.size))
  have HE4 := Lib.hid ((HE.out.below HB4.out).alloc (.cells #[.int .i64 n, .int .i64 ((ns.size : Int) + 2), .int .i64 0] 26))
  have HB4a := Lib.hid (HB4.out.alloc HB4.out.size (.cells #[.int .i64 n, .int .i64 ((ns.size : Int) + 2), .int .i64 0] 26))
  have hf4 := field4n
  have t0 : (1 : Int) ≤ (ns.size : Int) := by omega
  have t1 : (0 : Int) ≤ (ns.size : Int) - 1 := by omega
  have t2 : ((ns.size : Int) - 1).toNat = ns.size - 1 := by omega
  clear hb4 K1 K2 HK3 HN
  go_wp2_with fail
  refine (HK4.out _ HE4.out).mono ?_
  rintro e w5 ⟨rfl, hb5⟩
  have HB5 := Lib.hid (HB4a.out.trans (hb5.mono HB4a.out.size))
  have HY := Lib.hid ((H1.out.below HB5.out).mono HB5.out.size)
  clear hb5 HB4a HK4 HE3 HE4
  go_wp2_with fail
  refine (drawPutText w5 a1 len1 cap1 hl1 HY.out).mono ?_
  rintro e w6 ⟨u, hu, rfl, hb6⟩
  have HB6 := Lib.hid (HB5.out.trans (hb6.mono HB5.out.size))
  have hum : u.size ≤ maxLen := by unfold maxLen; omega
  have K5 := fun W => impl_PutText u hum W
  have K6 := fun W => spec_PutText u hum W
  clear hb6 hf4
  by_cases hlong : 8000 < u.size
  · rw [putText_long u hlong] at K5 K6
    have HK5 := Lib.hid K5
    have HK6 := Lib.hid K6
    clear K5 K6
    go_wp2_with fail
    refine (HK5.out _).mono ?_
    rintro e w7 ⟨rfl, hb7⟩
    have HB7 := Lib.hid (HB6.out.trans (hb7.mono HB6.out.size))
    clear hb7
    go_wp2_with fail
    refine (HK6.out _).mono ?_
    rintro e w8 ⟨rfl, hb8⟩
    have HB8 := Lib.hid (HB7.out.trans (hb8.mono HB7.out.size))
    clear hb8
    go_wp2_with fail
    refine (HK6.out _).mono ?_
    rintro e w9 ⟨rfl, hb9⟩
    have HB9 := Lib.hid (HB8.out.trans (hb9.mono HB8.out.size))
    clear hb9
    go_wp2
    go_ret
    exact ⟨rfl, HB9.out⟩
  · rw [putText_short u hlong] at K5 K6
    have hps : (numS u.size ++ u).size = (enc (fold u.size)).length + u.size := by rw [ByteArray.size_append, ← size_data (numS u.size), numS_data]
    have hpd : (numS u.size ++ u).data.toList = enc (fold u.size) ++ u.data.toList := by rw [ByteArray.data_append]; simp [numS]
    have hpos := enc_pos (fold u.size)
    have hle := enc_len10 (fold u.size) (fold_lt u.size (by omega))
    have hp1 : 1 ≤ (numS u.size ++ u).size := by omega
    have hp9 : (numS u.size ++ u).size ≤ 8010 := by omega
    have hemp : (numS u.size ++ u).toList.isEmpty = false := by
      rw [ByteArray.toList_eq, hpd]
      cases hc : enc (fold u.size) ++ u.data.toList with
      | nil => have := congrArg List.length hc; simp at this; rw [this.1] at hpos; simp at hpos
      | cons _ _ => rfl
    have HT1 : Hid (¬ 8000 < (numS u.size ++ u).size + 1 → cutT (⟨#[120]⟩ ++ (numS u.size ++ u)) (getN (⟨#[120]⟩ ++ (numS u.size ++ u)) 1) = (u, ((numS u.size ++ u).size : Int) + 1, 0)) := Lib.hid (fun h => by
      refine text_back u _ (by omega) ?_ ?_
      · rw [ByteArray.data_append, Array.toList_append, hpd]
      · rw [ByteArray.size_append]; show ¬ 8000 < 1 + _; omega)
    have HT2 : Hid (¬ 8000 < (numS u.size ++ u).size + 1 → (cutT ((numS u.size ++ u).extract 0 ((numS u.size ++ u).size - 1)) (getN ((numS u.size ++ u).extract 0 ((numS u.size ++ u).size - 1)) 0)).2.2 = 4) := Lib.hid (fun h => by
      refine text_short u _ (by omega) ?_ ?_
      · rw [ByteArray.data_extract, Array.toList_extract, hpd, List.extract_eq_take_drop, ← size_data, hpd]; simp
      · rw [ByteArray.size_extract]; omega)
    clear hps hpd hpos hle
    generalize numS u.size ++ u = p at K5 K6 hp1 hp9 hemp HT1 HT2
    have HK5 := Lib.hid K5
    have HK6 := Lib.hid K6
    clear K5 K6
    go_wp2_with fail
    refine (HK5.out _).mono ?_
    rintro e w7 ⟨rfl, hb7⟩
    have HB7 := Lib.hid (HB6.out.trans (hb7.mono HB6.out.size))
    clear hb7
    go_wp2_with fail
    refine (HK6.out _).mono ?_
    rintro e w8 ⟨rfl, hb8⟩
    have HB8 := Lib.hid (HB7.out.trans (hb8.mono HB7.out.size))
    clear hb8 HK5 HK6
    by_cases hbig : 8000 < p.size + 1
    · have g1 : (8000 : Int) < (p.size : Int) + 1 := by omega
      go_wp2
      go_ret
      exact ⟨rfl, HB8.out⟩
    · have g1 : decide ((8000 : Int) < (p.size : Int) + 1) = false := by simp; omega
      have hz1 : (⟨#[120]⟩ ++ p : ByteArray).size ≤ maxLen := by rw [ByteArray.size_append]; show 1 + p.size ≤ maxLen; unfold maxLen; omega
      have hz2 : (p.extract 0 (p.size - 1)).size ≤ maxLen := by rw [ByteArray.size_extract]; unfold maxLen; omega
      have K7 := fun W h => impl_GetText (⟨#[120]⟩ ++ p) hz1 1 W h
      have K8 := fun W h => impl_GetText (p.extract 0 (p.size - 1)) hz2 0 W h
      rw [HT1.out hbig] at K7
      obtain ⟨q1, q2, q3, hq⟩ : ∃ q1 q2 q3, cutT (p.extract 0 (p.size - 1)) (getN (p.extract 0 (p.size - 1)) 0) = (q1, q2, q3) := ⟨_, _, _, rfl⟩
      have h4 := HT2.out hbig
      rw [hq] at h4 K8
      simp only at h4
      subst h4
      unfold tout at K7 K8
      simp only at K7 K8
      have HK7 := Lib.hid K7
      have HK8 := Lib.hid K8
      have HE8 := Lib.hid (HE.out.below HB8.out)
      have s0 : (1 : Int) ≤ (p.size : Int) := by omega
      have s1 : (0 : Int) ≤ (p.size : Int) - 1 := by omega
      have s2 : ((p.size : Int) - 1).toNat = p.size - 1 := by omega
      have hf4 := field4t q1 q2
      clear K7 K8 hq HT1 HT2 hz1 hz2
      go_wp2_with fail
      refine (HK7.out _ HE8.out).mono ?_
      rintro e w9 ⟨rfl, hb9⟩
      have HB9 := Lib.hid (HB8.out.trans (hb9.mono HB8.out.size))
      have HE9 := Lib.hid (HE.out.below HB9.out)
      clear hb9
      go_wp2_with fail
      refine (HK8.out _ HE9.out).mono ?_
      rintro e w10 ⟨rfl, hb10⟩
      have HB10 := Lib.hid (HB9.out.trans (hb10.mono HB9.out.size))
      clear hb10
      go_wp2
      go_ret
      exact ⟨rfl, HB10.out⟩
end Go.Proofs.YthlbhmnjdcnejaaDoor.Pn
